/- Whether a tariff is valid: of the program and of its model. -/
import Derived.Test.YtngmpimoebggdaaTf
import Derived.Test.YtngmpimoebggdaaShare
import Derived.Test.YtngmpimoebggdaaEvM
import Derived.Laws.EntriesVeiled
namespace Go.Proofs.Ytngmpimoebggdaa.C1
open Go.ChangeShapes Go.WideShapes Go.ChangeAt Go.RowKit Go.Proofs.Ytngmpimoebggdaa.ShareM
set_option linter.unusedVariables false

def rngTo (F : Nat → Int) (l h : Int) : Nat → Bool
  | 0 => true
  | k + 1 => rngTo F l h k && inB (F k) l h
theorem rngTo_iff {F : Nat → Int} {l h : Int} {n : Nat} : rngTo F l h n = true ↔ ∀ i, i < n → inB (F i) l h = true := by
  induction n with
  | zero => simp [rngTo]
  | succ n ih =>
    simp only [rngTo, Bool.and_eq_true, ih]
    constructor
    · rintro ⟨h1, h2⟩ i hi
      rcases Nat.lt_or_ge i n with h | h
      · exact h1 i h
      · obtain rfl : i = n := by omega
        exact h2
    · intro h
      exact ⟨fun i hi => h i (by omega), h n (by omega)⟩
theorem rngTo_no {F : Nat → Int} {l h : Int} {n k : Nat} (hk : k < n) (hb : inB (F k) l h = false) : rngTo F l h n = false := by
  rw [Bool.eq_false_iff]
  intro h'
  rw [rngTo_iff.1 h' k hk] at hb
  cases hb
def wgOk (n : Nat) (W : Nat → Int) : Bool := decide (n ≤ 11) && (rngTo W 0 1000 n && decide (0 < sumTo W n))
def tfOk (T : Tf) : Bool := inB T.b 0 10000 && (inB T.p 0 100 && (decide (T.n = 3) && (rngTo T.C 0 10000 T.n && wgOk T.m T.W)))
theorem RowI.srcG {w : World} {A : Option Addr} {n g : Nat} {W : Nat → Int} (h : RowI w A n g W) : SrcG w A n W := fun hn => ⟨g, h.1 hn, h.2⟩
theorem rngTo_all {F : Nat → Int} {l h : Int} {n : Nat} : allTo (fun k => inB (F k) l h) n = rngTo F l h n := by
  induction n with
  | zero => rfl
  | succ n ih => rw [allTo, rngTo, ih]
theorem inns_impl (x l h : Int) (p q : Nat) (w : World) (hp : w.cell? ⟨p, 0, none⟩ = some (.int .i64 l)) (hq : w.cell? ⟨q, 0, none⟩ = some (.int .i64 h)) :
    Calls Try.prog 160 #[.int .i64 x, .pointer (some ⟨p, 0, none⟩), .pointer (some ⟨q, 0, none⟩)] w fun e w' => e = .returned (.bool (inB x l h)) ∧ Below w.heap.size w w' := by
  have hl1 := cell_lt hp
  have hl2 := cell_lt hq
  go_enter Try.func160, Try.ntmps160
  go_wp2_with (go_at_call 75; refine (within_i _ _ _ _).mono ?_; rintro e w' ⟨rfl, rfl⟩)
  go_ret
  exact ⟨rfl, Below.refl _ _⟩
set_option maxHeartbeats 1000000 in
theorem evi_one (P : Bool) (pl ph : Nat) (q : Nat) (k : Nat) (F : Nat → Int)  (w : World) (hq : w.cell? ⟨q, 0, none⟩ = some (.func (Fn.func 160) #[] #[.pointer (some ⟨pl, 0, none⟩), .pointer (some ⟨ph, 0, none⟩)]))
    (hf : ∀ w', Below w.heap.size w w' → Calls Try.prog 160 #[.int .i64 (F k), .pointer (some ⟨pl, 0, none⟩), .pointer (some ⟨ph, 0, none⟩)] w' fun e w'' => e = .returned (.bool P) ∧ Below w'.heap.size w' w'') :
    Calls Try.prog 200 #[.int .i64 (F k), .pointer (some ⟨q, 0, none⟩)] w fun e w' => e = .returned (.bool (!P)) ∧ Below w.heap.size w w' := by
  have hlt := World.block_lt_of_cell? _ _ hq
  have HF := vl hf
  clear hf
  cases P
  all_goals
    go_enter Try.func200, Try.ntmps200
    go_wp2_with fail
    refine (HF.out _ (Below.refl _ _)).mono ?_
    rintro e w1 ⟨rfl, hb1⟩
    have HB1 := vl hb1
    clear hb1
    go_wp2
    go_ret
    exact ⟨rfl, HB1.out⟩
set_option maxHeartbeats 1000000 in
theorem evi_idx (P : Nat → Bool) (pl ph : Nat) (q : Nat) (A : Option Addr) (n c : Nat) (F : Nat → Int) (w : World) (hn : n ≤ 1048576) (hp : SrcG w A n F) (hq : w.cell? ⟨q, 0, none⟩ = some (.func (Fn.func 160) #[] #[.pointer (some ⟨pl, 0, none⟩), .pointer (some ⟨ph, 0, none⟩)]))
    (hf : ∀ (k : Nat)  (w' : World), k < n → Below w.heap.size w w' → Calls Try.prog 160 #[.int .i64 (F k), .pointer (some ⟨pl, 0, none⟩), .pointer (some ⟨ph, 0, none⟩)] w' fun e w'' => e = .returned (.bool (P k)) ∧ Below w'.heap.size w' w'') :
    Calls Try.prog 169 #[.slice A n c, .func (Fn.func 200) #[] #[.pointer (some ⟨q, 0, none⟩)]] w fun e w' => ((allTo P n = true ∧ e = .returned (.int .i64 (-1))) ∨ (allTo P n = false ∧ ∃ k : Nat, e = .returned (.int .i64 (k : Int)))) ∧ Below w.heap.size w w' := by
  have HP := vl hp
  have HQ := vl hq
  have HF := vl hf
  clear hp hq hf
  go_enter Try.func169, Try.ntmps169
  go_wp2
  go_loopw [8] (fun i wr => ∃ k : Nat, k ≤ n ∧ i = .int .i64 k ∧ Veil (allTo P k = true) ∧ Veil (Below w.heap.size w wr)) (fun i _ => n - (intOf i).toNat)
  case atStart => exact ⟨0, by omega, rfl, vl rfl, vl (Below.refl _ _)⟩
  case round =>
    obtain ⟨k, hk, rfl, HA, HB⟩ := hrel
    by_cases hlt : k < n
    · obtain ⟨g, rfl, hc⟩ := (HP.out.below HB.out) (by omega)
      have x0 := hc k hlt
      clear hc
      have HQ1 := vl ((HB.out.cell (World.block_lt_of_cell? _ _ HQ.out)).trans HQ.out)
      cases hkk : P k with
      | true =>
        have HN := vl (allTo_succ HA.out hkk)
        have HK := vl hkk
        clear hkk
        go_wp2_with fail
        refine (evi_one (P k) pl ph q k F  _ HQ1.out (fun w' h => HF.out k  w' hlt  (HB.out.trans (h.mono HB.out.size)))).mono ?_
        rintro e w1 ⟨rfl, hb1⟩
        rw [HK.out]
        have HB1 := vl (HB.out.trans (hb1.mono HB.out.size))
        clear hb1
        go_wp2
        go_roundw
        case rel => exact ⟨k + 1, by omega, by go_num, HN, HB1⟩
        case measure => simp [intOf]; omega
      | false =>
        have HN := vl (allTo_no hlt hkk)
        have HK := vl hkk
        clear hkk
        go_wp2_with fail
        refine (evi_one (P k) pl ph q k F  _ HQ1.out (fun w' h => HF.out k  w' hlt  (HB.out.trans (h.mono HB.out.size)))).mono ?_
        rintro e w1 ⟨rfl, hb1⟩
        rw [HK.out]
        have HB1 := vl (HB.out.trans (hb1.mono HB.out.size))
        clear hb1
        go_wp2
        go_ret
        exact ⟨Or.inr ⟨HN.out, k, rfl⟩, HB1.out⟩
    · obtain rfl : k = n := by omega
      go_wp2
      go_ret
      exact ⟨Or.inl ⟨HA.out, rfl⟩, HB.out⟩
theorem evi_con (P : Nat → Bool) (pl ph : Nat) (q : Nat) (A : Option Addr) (n c : Nat) (F : Nat → Int) (w : World) (hn : n ≤ 1048576) (hp : SrcG w A n F) (hq : w.cell? ⟨q, 0, none⟩ = some (.func (Fn.func 160) #[] #[.pointer (some ⟨pl, 0, none⟩), .pointer (some ⟨ph, 0, none⟩)]))
    (hf : ∀ (k : Nat)  (w' : World), k < n → Below w.heap.size w w' → Calls Try.prog 160 #[.int .i64 (F k), .pointer (some ⟨pl, 0, none⟩), .pointer (some ⟨ph, 0, none⟩)] w' fun e w'' => e = .returned (.bool (P k)) ∧ Below w'.heap.size w' w'') :
    Calls Try.prog 107 #[.slice A n c, .func (Fn.func 200) #[] #[.pointer (some ⟨q, 0, none⟩)]] w fun e w' => e = .returned (.bool (!allTo P n)) ∧ Below w.heap.size w w' := by
  have HP := vl hp
  have HQ := vl hq
  have HF := vl hf
  clear hp hq hf
  go_enter Try.func107, Try.ntmps107
  go_wp2_with fail
  refine (evi_idx P pl ph q A n c F _ hn HP.out HQ.out HF.out).mono ?_
  rintro e w1 ⟨⟨ha, rfl⟩ | ⟨ha, j, rfl⟩, hb1⟩
  · have HV := vl ha
    have HB1 := vl hb1
    clear hb1 ha
    go_wp2
    go_ret
    exact ⟨by rw [HV.out]; rfl, HB1.out⟩
  · have HV := vl ha
    have HB1 := vl hb1
    have k0 : (0 : Int) ≤ (j : Int) := by omega
    clear hb1 ha
    go_wp2
    go_ret
    exact ⟨by rw [HV.out]; rfl, HB1.out⟩
theorem evi_every (P : Nat → Bool) (pl ph : Nat) (A : Option Addr) (n c : Nat) (F : Nat → Int) (w : World) (hn : n ≤ 1048576) (hp : SrcG w A n F)
    (hf : ∀ (k : Nat)  (w' : World), k < n → Below w.heap.size w w' → Calls Try.prog 160 #[.int .i64 (F k), .pointer (some ⟨pl, 0, none⟩), .pointer (some ⟨ph, 0, none⟩)] w' fun e w'' => e = .returned (.bool (P k)) ∧ Below w'.heap.size w' w'') :
    Calls Try.prog 159 #[.slice A n c, .func (Fn.func 160) #[] #[.pointer (some ⟨pl, 0, none⟩), .pointer (some ⟨ph, 0, none⟩)]] w fun e w' => e = .returned (.bool (allTo P n)) ∧ Below w.heap.size w w' := by
  have HP := vl hp
  have HF := vl hf
  clear hp hf
  cases hv : allTo P n
  all_goals
    have HV := vl hv
    clear hv
    go_enter Try.func159, Try.ntmps159
    go_wp2_with fail
    refine (evi_con P pl ph _ A n c F _ hn ?_ ?_ ?_).mono ?_
    · exact HP.out.below ((Below.refl _ _).alloc (Nat.le_refl _) _)
    · simp; done
    · intro k w' hk h
      exact HF.out k  w' hk  (((Below.refl w.heap.size w).alloc (Nat.le_refl _) _).trans (h.mono (by simp)))
    rintro e w1 ⟨rfl, hb1⟩
    rw [HV.out]
    have HB1 := vl (((Below.refl w.heap.size w).alloc (Nat.le_refl _) _).trans (hb1.mono (by simp)))
    clear hb1
    go_wp2
    go_ret
    exact ⟨rfl, HB1.out⟩
set_option maxHeartbeats 1000000 in
theorem allw_impl (A : Option Addr) (n c : Nat) (F : Nat → Int) (l h : Int) (w : World) (hn : n ≤ 1048576) (hs : SrcG w A n F) (b : Bool) (hb : rngTo F l h n = b) :
    Calls Try.prog 85 #[.slice A n c, .int .i64 l, .int .i64 h] w (GivesB w b) := by
  obtain ⟨W, hW⟩ : ∃ W, W = (w.alloc (.cells #[.int .i64 l] 3)).alloc (.cells #[.int .i64 h] 3) := ⟨_, rfl⟩
  have HB0 := vl (show Below w.heap.size w W by rw [hW]; exact ((Below.refl w.heap.size w).alloc (Nat.le_refl _) _).alloc (by simp) _)
  have HP := vl (hs.below HB0.out)
  have HT := vl (show W.cell? ⟨w.heap.size, 0, none⟩ = some (.int .i64 l) by rw [hW]; simp)
  have HQ := vl (show W.cell? ⟨w.heap.size + 1, 0, none⟩ = some (.int .i64 h) by rw [hW]; simp)
  have HR := vl hb
  have HW := vl hW
  clear hs hb hW
  have hmf : ∀ (fn : Fn) (first cap : Array Value) (w : World), (Instr.makeFunc fn first cap).run Try.prog w = .ok (.func fn first cap) w := fun _ _ _ _ => rfl
  go_enter Try.func85, Try.ntmps85
  go_wp2_with fail
  try simp only [World.size_alloc]
  rw [← HW.out]
  refine (evi_every (fun k => inB (F k) l h) _ _ _ _ _ F _ hn HP.out (fun k w' hk hb => inns_impl (F k) l h _ _ w' ((hb.cell (cell_lt HT.out)).trans HT.out) ((hb.cell (cell_lt HQ.out)).trans HQ.out))).mono ?_
  rintro e w1 ⟨rfl, hb1⟩
  rw [rngTo_all, HR.out]
  have HB1 := vl (HB0.out.trans (hb1.mono HB0.out.size))
  clear hb1
  cases b
  all_goals
    go_wp2
    go_ret
    exact ⟨rfl, HB1.out⟩
theorem wg_sw {n : Nat} {W : Nat → Int} (h : rngTo W 0 1000 n = true) (h11 : n ≤ 11) : sw n W = sumTo W n := sw_yes ⟨by omega, fun i hi => by
  have := inB_iff.1 (rngTo_iff.1 h i hi); omega⟩
set_option maxHeartbeats 1000000 in
theorem wg_impl (A : Option Addr) (n c : Nat) (W : Nat → Int) (w : World) (hn : n ≤ 1048576) (hs : SrcG w A n W) (b : Bool) (hb : wgOk n W = b) :
    Calls Try.prog 86 #[.slice A n c] w (GivesB w b) := by
  have HP := vl hs
  have HR := vl hb
  clear hs hb
  by_cases h11 : 11 < n
  · have H := vl (show wgOk n W = false by unfold wgOk; rw [decide_eq_false (by omega), Bool.false_and])
    go_enter Try.func86, Try.ntmps86
    go_wp2
    go_ret
    exact ⟨ret_bool (H.out.symm.trans HR.out), Below.refl _ _⟩
  have h12 : n ≤ 11 := by omega
  clear h11
  cases hr : rngTo W 0 1000 n with
  | false =>
    have H := vl (show wgOk n W = false by unfold wgOk; rw [hr, Bool.false_and, Bool.and_false])
    have HRR := vl hr
    clear hr
    go_enter Try.func86, Try.ntmps86
    go_wp2_with fail
    refine (allw_impl _ _ _ W 0 1000 _ hn HP.out _ HRR.out).mono ?_
    rintro e w1 ⟨rfl, hb1⟩
    have HB1 := vl hb1
    clear hb1
    go_wp2
    go_ret
    exact ⟨ret_bool (H.out.symm.trans HR.out), HB1.out⟩
  | true =>
    have H := vl (show wgOk n W = decide (0 < sw n W) by unfold wgOk; rw [hr, decide_eq_true h12, Bool.true_and, Bool.true_and, wg_sw hr h12])
    have HRR := vl hr
    clear hr
    generalize hz : sw n W = z at H
    have HZ := vl hz
    clear hz
    go_enter Try.func86, Try.ntmps86
    go_wp2_with fail
    refine (allw_impl _ _ _ W 0 1000 _ hn HP.out _ HRR.out).mono ?_
    rintro e w1 ⟨rfl, hb1⟩
    have HB1 := vl hb1
    have HP1 := vl (HP.out.below hb1)
    clear hb1
    go_wp2_with fail
    refine (weights_impl _ _ _ W _ hn HP1.out).mono ?_
    rintro e w2 ⟨rfl, rfl⟩
    rw [HZ.out]
    by_cases h0 : 0 < z
    · have H' := vl (H.out.trans (decide_eq_true h0))
      go_wp2
      go_ret
      exact ⟨ret_bool (by first | exact (H'.out.symm.trans HR.out) | (rw [← HR.out, H'.out]; simp; omega)), HB1.out⟩
    · have H' := vl (H.out.trans (decide_eq_false h0))
      go_wp2
      go_ret
      exact ⟨ret_bool (by first | exact (H'.out.symm.trans HR.out) | (rw [← HR.out, H'.out]; simp; omega)), HB1.out⟩
theorem tfOk_cases (T : Tf) : (tfOk T = false ∧ inB T.b 0 10000 = false) ∨ (tfOk T = false ∧ inB T.b 0 10000 = true ∧ inB T.p 0 100 = false) ∨ (tfOk T = false ∧ inB T.b 0 10000 = true ∧ inB T.p 0 100 = true ∧ ¬ T.n = 3) ∨
    (tfOk T = false ∧ inB T.b 0 10000 = true ∧ inB T.p 0 100 = true ∧ T.n = 3 ∧ Veil (rngTo T.C 0 10000 T.n = false)) ∨ (tfOk T = wgOk T.m T.W ∧ inB T.b 0 10000 = true ∧ inB T.p 0 100 = true ∧ T.n = 3 ∧ Veil (rngTo T.C 0 10000 T.n = true)) := by
  unfold tfOk
  cases inB T.b 0 10000
  · left; exact ⟨rfl, rfl⟩
  · cases inB T.p 0 100
    · right; left; exact ⟨rfl, rfl, rfl⟩
    · by_cases h3 : T.n = 3
      · cases hr : rngTo T.C 0 10000 T.n
        · right; right; right; left; exact ⟨by simp, rfl, rfl, h3, vl rfl⟩
        · right; right; right; right; exact ⟨by simp [h3], rfl, rfl, h3, vl rfl⟩
      · right; right; left; exact ⟨by simp [h3], rfl, rfl, h3⟩
set_option maxHeartbeats 2000000 in
theorem tfok_impl (T : Tf) (A D : Option Addr) (c d : Nat) (w : World) (hn : T.n ≤ 1048576) (hm : T.m ≤ 1048576) (hA : SrcG w A T.n T.C) (hD : SrcG w D T.m T.W) :
    Calls Try.prog 35 #[.agg #[.int .i64 T.b, .int .i64 T.p, .slice A T.n c, .slice D T.m d]] w (GivesB w (tfOk T)) := by
  have HB0 := vl ((Below.refl w.heap.size w).alloc (Nat.le_refl _) (.cells #[.int .i64 T.b, .int .i64 T.p, .slice A T.n c, .slice D T.m d] 62))
  have HA := vl (hA.below HB0.out)
  have HD := vl (hD.below HB0.out)
  have HX := vl (Box4.new w (.int .i64 T.b) (.int .i64 T.p) (.slice A T.n c) (.slice D T.m d) 62)
  clear hA hD
  rcases tfOk_cases T with ⟨h, h1⟩ | ⟨h, h1, h2⟩ | ⟨h, h1, h2, h3⟩ | ⟨h, h1, h2, h3, HV⟩ | ⟨h, h1, h2, h3, HV⟩
  · have H := vl h
    clear h
    go_enter Try.func35, Try.ntmps35
    go_wp2_with (go_at_call 75; refine (within_i _ _ _ _).mono ?_; rintro e w' ⟨rfl, rfl⟩)
    go_ret
    exact ⟨ret_bool H.out.symm, HB0.out⟩
  · have H := vl h
    clear h
    go_enter Try.func35, Try.ntmps35
    go_wp2_with (go_at_call 75; refine (within_i _ _ _ _).mono ?_; rintro e w' ⟨rfl, rfl⟩)
    go_ret
    exact ⟨ret_bool H.out.symm, HB0.out⟩
  · have H := vl h
    have h3' : ¬ ((T.n : Int) = 3) := by omega
    clear h
    go_enter Try.func35, Try.ntmps35
    go_wp2_with (go_at_call 75; refine (within_i _ _ _ _).mono ?_; rintro e w' ⟨rfl, rfl⟩)
    go_ret
    exact ⟨ret_bool (by first | exact H.out.symm | (rw [H.out]; simp; omega)), HB0.out⟩
  · have H := vl h
    have h3' : ((T.n : Int) = 3) := by omega
    have H3 := vl h3
    clear h h3
    go_enter Try.func35, Try.ntmps35
    go_wp2_with (go_at_call 75; refine (within_i _ _ _ _).mono ?_; rintro e w' ⟨rfl, rfl⟩)
    refine (allw_impl _ _ _ T.C 0 10000 _ hn HA.out _ HV.out).mono ?_
    rintro e w1 ⟨rfl, hb1⟩
    have HB1 := vl (HB0.out.trans (hb1.mono HB0.out.size))
    clear hb1
    go_wp2
    go_ret
    exact ⟨ret_bool H.out.symm, HB1.out⟩
  · have h3' : ((T.n : Int) = 3) := by omega
    have H3 := vl h3
    cases hw : wgOk T.m T.W
    all_goals
      have H := vl (h.trans hw)
      have HW := vl hw
      clear h h3 hw
      go_enter Try.func35, Try.ntmps35
      go_wp2_with (go_at_call 75; refine (within_i _ _ _ _).mono ?_; rintro e w' ⟨rfl, rfl⟩)
      refine (allw_impl _ _ _ T.C 0 10000 _ hn HA.out _ HV.out).mono ?_
      rintro e w1 ⟨rfl, hb1⟩
      have HB1 := vl (HB0.out.trans (hb1.mono HB0.out.size))
      have HX1 := vl (HX.out.below hb1)
      have HD1 := vl (HD.out.below hb1)
      have hl := HX1.out.lt
      obtain ⟨x0, x1, x2, x3⟩ := HX1.out.at
      clear hb1
      go_wp2_with fail
      refine (wg_impl _ _ _ T.W _ hm HD1.out _ HW.out).mono ?_
      rintro e w2 ⟨rfl, hb2⟩
      have HB2 := vl (HB1.out.trans (hb2.mono HB1.out.size))
      clear hb2
      go_wp2
      go_ret
      exact ⟨ret_bool H.out.symm, HB2.out⟩
theorem wgOk_no {m : Nat} {W : Nat → Int} (h : inB (m : Int) 1 11 = false) : wgOk m W = false := by
  unfold wgOk
  by_cases h1 : m ≤ 11
  · have h0 : m = 0 := by
      rcases Nat.eq_zero_or_pos m with h0 | h0
      · exact h0
      · rw [inB_yes (by omega) (by omega)] at h; cases h
    subst h0
    simp [sumTo]
  · rw [decide_eq_false h1, Bool.false_and]
theorem tfS_cases (T : Tf) : (tfOk T = false ∧ inB T.b 0 10000 = false) ∨ (tfOk T = false ∧ inB T.b 0 10000 = true ∧ inB T.p 0 100 = false) ∨ (tfOk T = false ∧ inB T.b 0 10000 = true ∧ inB T.p 0 100 = true ∧ ¬ T.n = 3) ∨
    (tfOk T = false ∧ inB T.b 0 10000 = true ∧ inB T.p 0 100 = true ∧ T.n = 3 ∧ inB (T.m : Int) 1 11 = false) ∨
    (tfOk T = (rngTo T.C 0 10000 T.n && (rngTo T.W 0 1000 T.m && decide (0 < sumTo T.W T.m))) ∧ inB T.b 0 10000 = true ∧ inB T.p 0 100 = true ∧ T.n = 3 ∧ inB (T.m : Int) 1 11 = true) := by
  unfold tfOk
  cases inB T.b 0 10000
  · left; exact ⟨rfl, rfl⟩
  · cases inB T.p 0 100
    · right; left; exact ⟨rfl, rfl, rfl⟩
    · by_cases h3 : T.n = 3
      · cases hm : inB (T.m : Int) 1 11
        · right; right; right; left; exact ⟨by rw [wgOk_no hm]; simp, rfl, rfl, h3, rfl⟩
        · right; right; right; right
          refine ⟨?_, rfl, rfl, h3, rfl⟩
          have := inB_iff.1 hm
          unfold wgOk
          simp [h3, show T.m ≤ 11 by omega]
      · right; right; left; exact ⟨by simp [h3], rfl, rfl, h3⟩
set_option maxHeartbeats 4000000 in
theorem tfok_spec (T : Tf) (A D : Option Addr) (c d : Nat) (w : World) (hn : T.n ≤ 1048576) (hm : T.m ≤ 1048576) (hA : SrcG w A T.n T.C) (hD : SrcG w D T.m T.W) :
    Calls Try.prog 33 #[.agg #[.int .i64 T.b, .int .i64 T.p, .slice A T.n c, .slice D T.m d]] w (GivesB w (tfOk T)) := by
  have hcs := tfS_cases T
  obtain ⟨b, p, n, C, m, W⟩ := T
  simp only at hn hm hA hD hcs
  show Calls Try.prog 33 #[.agg #[.int .i64 b, .int .i64 p, .slice A n c, .slice D m d]] w _
  have HB0 := vl ((Below.refl w.heap.size w).alloc (Nat.le_refl _) (.cells #[.int .i64 b, .int .i64 p, .slice A n c, .slice D m d] 62))
  have HA := vl (hA.below HB0.out)
  have HD := vl (hD.below HB0.out)
  have HX := vl (Box4.new w (.int .i64 b) (.int .i64 p) (.slice A n c) (.slice D m d) 62)
  clear hA hD
  rcases hcs with ⟨h, h1⟩ | ⟨h, h1, h2⟩ | ⟨h, h1, h2, h3⟩ | ⟨h, h1, h2, h3, h4⟩ | ⟨h, h1, h2, h3, h4⟩
  · have H := vl h
    clear h
    go_enter Try.func33, Try.ntmps33
    go_wp2_with (go_at_call 65; refine (in_spec _ _ _ _).mono ?_; rintro e w' ⟨rfl, rfl⟩)
    go_ret
    exact ⟨ret_bool H.out.symm, HB0.out⟩
  · have H := vl h
    clear h
    go_enter Try.func33, Try.ntmps33
    go_wp2_with (go_at_call 65; refine (in_spec _ _ _ _).mono ?_; rintro e w' ⟨rfl, rfl⟩)
    go_ret
    exact ⟨ret_bool H.out.symm, HB0.out⟩
  · have H := vl h
    have h3' : ¬ ((n : Int) = 3) := by omega
    clear h
    go_enter Try.func33, Try.ntmps33
    go_wp2_with (go_at_call 65; refine (in_spec _ _ _ _).mono ?_; rintro e w' ⟨rfl, rfl⟩)
    go_ret
    exact ⟨ret_bool H.out.symm, HB0.out⟩
  · have H := vl h
    subst h3
    clear h
    go_enter Try.func33, Try.ntmps33
    go_wp2_with (go_at_call 65; refine (in_spec _ _ _ _).mono ?_; rintro e w' ⟨rfl, rfl⟩)
    go_ret
    exact ⟨ret_bool H.out.symm, HB0.out⟩
  · have H := vl h
    subst h3
    clear h
    go_enter Try.func33, Try.ntmps33
    go_wp2_with fail
    generalize hW : w.alloc (.cells #[.int .i64 b, .int .i64 p, .slice A 3 c, .slice D m d] 62) = W1 at HA HD HB0 HX ⊢
    clear hW
    obtain ⟨x0, x1, x2, x3⟩ := HX.out.at
    refine (in_spec _ _ _ _).mono ?_
    rintro e w' ⟨rfl, rfl⟩
    rw [h1]
    go_wp2_with (go_at_call 65; refine (in_spec _ _ _ _).mono ?_; rintro e w' ⟨rfl, rfl⟩)
    have H1 := vl h1
    have H2 := vl h2
    have H4 := vl h4
    clear h1 h2 h4
    go_loop [3] (fun i => ∃ k : Nat, k ≤ 3 ∧ i = .int .i64 k ∧ Veil (rngTo C 0 10000 k = true)) (fun i => 3 - (intOf i).toNat)
    case atStart => exact ⟨0, by omega, rfl, vl rfl⟩
    case round =>
      obtain ⟨k, hk, rfl, HT⟩ := hrel
      by_cases hlt : k < 3
      · obtain ⟨g, rfl, hc⟩ := HA.out (by omega)
        have c0 := hc k hlt
        clear hc
        cases hv : inB (C k) 0 10000 with
        | false =>
          have H0 := vl (H.out.trans (by rw [rngTo_no hlt hv, Bool.false_and]))
          go_wp2_with (go_at_call 65; refine (in_spec _ _ _ _).mono ?_; rintro e w' ⟨rfl, rfl⟩)
          go_ret
          exact ⟨ret_bool H0.out.symm, HB0.out⟩
        | true =>
          have HN := vl (show rngTo C 0 10000 (k + 1) = true by rw [rngTo, HT.out, hv]; rfl)
          go_wp2_with (go_at_call 65; refine (in_spec _ _ _ _).mono ?_; rintro e w' ⟨rfl, rfl⟩)
          go_round
          case rel => exact ⟨k + 1, by omega, by go_num, HN⟩
          case measure => simp [intOf]; omega
      · obtain rfl : k = 3 := by omega
        have H3 := vl (H.out.trans (by rw [HT.out, Bool.true_and]))
        have hmm := inB_iff.1 H4.out
        go_wp2
        go_loop [4, 5] (fun s i => ∃ k : Nat, k ≤ m ∧ i = .int .i64 k ∧ s = .int .i64 (sumTo W k) ∧ Veil (rngTo W 0 1000 k = true)) (fun _ i => m - (intOf i).toNat)
        case atStart => exact ⟨0, by omega, rfl, rfl, vl rfl⟩
        case round =>
          obtain ⟨k, hk, rfl, rfl, HR⟩ := hrel
          obtain ⟨hb0, hb1⟩ := sum_part (n := m) (W := W) (by omega : k ≤ 12) (fun i hi => by have := inB_iff.1 (rngTo_iff.1 HR.out i hi); omega)
          by_cases hlt : k < m
          · obtain ⟨g, rfl, hc⟩ := HD.out (by omega)
            have c0 := hc k hlt
            clear hc
            cases hv : inB (W k) 0 1000 with
            | false =>
              have H0 := vl (H3.out.trans (by rw [rngTo_no hlt hv, Bool.false_and]))
              go_wp2_with (go_at_call 65; refine (in_spec _ _ _ _).mono ?_; rintro e w' ⟨rfl, rfl⟩)
              go_ret
              exact ⟨ret_bool H0.out.symm, HB0.out⟩
            | true =>
              have HN := vl (show rngTo W 0 1000 (k + 1) = true by rw [rngTo, HR.out, hv]; rfl)
              obtain ⟨hw0, hw1⟩ := inB_iff.1 hv
              go_wp2_with (go_at_call 65; refine (in_spec _ _ _ _).mono ?_; rintro e w' ⟨rfl, rfl⟩)
              go_round
              case rel => exact ⟨k + 1, by omega, by go_num, rfl, HN⟩
              case measure => simp [intOf]; omega
          · obtain rfl : k = m := by omega
            have H5 := vl (H3.out.trans (by rw [HR.out, Bool.true_and]))
            generalize sumTo W k = z at H5 hb0 hb1 ⊢
            by_cases h0 : 0 < z
            · have H6 := vl (H5.out.trans (decide_eq_true h0))
              go_wp2
              go_ret
              exact ⟨ret_bool (by first | exact H6.out.symm | (rw [H6.out]; simp; omega)), HB0.out⟩
            · have H6 := vl (H5.out.trans (decide_eq_false h0))
              go_wp2
              go_ret
              exact ⟨ret_bool (by first | exact H6.out.symm | (rw [H6.out]; simp; omega)), HB0.out⟩
end Go.Proofs.Ytngmpimoebggdaa.C1
