/- Whether a tariff is valid: of the program and of its model. -/
import Derived.Test.YtclofbknbfmmlaaDoorTf
import Derived.Test.YtclofbknbfmmlaaDoorShare
namespace Go.Proofs.YtclofbknbfmmlaaDoor.C1
open Go.ChangeShapes Go.WideShapes Go.ChangeAt Go.RowKit Go.Proofs.YtclofbknbfmmlaaDoor.ShareM
set_option linter.unusedVariables false

def rngTo (F : Nat → Int) (l h : Int) : Nat → Bool
  | 0 => true
  | k + 1 => rngTo F l h k && inB (F k) l h
theorem rngTo_iff {F : Nat → Int} {l h : Int} {n : Nat} : rngTo F l h n = true ↔ ∀ i, i < n → inB (F i) l h = true := by
  induction n with
  | zero => simp [rngTo]
  | succ n ih =>
    simp only [rngTo, Bool.and_eq_true, ih]
    constructor
    · rintro ⟨h1, h2⟩ i hi
      rcases Nat.lt_or_ge i n with h | h
      · exact h1 i h
      · obtain rfl : i = n := by omega
        exact h2
    · intro h
      exact ⟨fun i hi => h i (by omega), h n (by omega)⟩
theorem rngTo_no {F : Nat → Int} {l h : Int} {n k : Nat} (hk : k < n) (hb : inB (F k) l h = false) : rngTo F l h n = false := by
  rw [Bool.eq_false_iff]
  intro h'
  rw [rngTo_iff.1 h' k hk] at hb
  cases hb
def wgOk (n : Nat) (W : Nat → Int) : Bool := decide (n ≤ 11) && (rngTo W 0 1000 n && decide (0 < sumTo W n))
def tfOk (T : Tf) : Bool := inB T.b 0 10000 && (inB T.p 0 100 && (decide (T.n = 3) && (rngTo T.C 0 10000 T.n && wgOk T.m T.W)))
theorem RowI.srcG {w : World} {A : Option Addr} {n g : Nat} {W : Nat → Int} (h : RowI w A n g W) : SrcG w A n W := fun hn => ⟨g, h.1 hn, h.2⟩
theorem outs_impl (x l h : Int) (p q : Nat) (w : World) (hp : w.cell? ⟨p, 0, none⟩ = some (.int .i64 l)) (hq : w.cell? ⟨q, 0, none⟩ = some (.int .i64 h)) :
    Calls Tryd.prog 92 #[.int .i64 x, .pointer (some ⟨p, 0, none⟩), .pointer (some ⟨q, 0, none⟩)] w fun e w' => e = .returned (.bool (!inB x l h)) ∧ Below w.heap.size w w' := by
  have hl1 := cell_lt hp
  have hl2 := cell_lt hq
  cases hv : inB x l h
  all_goals
    have HV := vl hv
    clear hv
    go_enter Tryd.func92, Tryd.ntmps92
    go_wp2_with (go_at_call 46; refine (within_i _ _ _ _).mono ?_; rintro e w' ⟨rfl, rfl⟩; rw [HV.out])
    go_ret
    exact ⟨rfl, Below.refl _ _⟩
set_option maxHeartbeats 1000000 in
theorem iidx_no (A : Option Addr) (n c : Nat) (F : Nat → Int) (l h : Int) (p q : Nat) (w : World) (hn : n ≤ 1048576) (hs : SrcG w A n F) (hp : w.cell? ⟨p, 0, none⟩ = some (.int .i64 l)) (hq : w.cell? ⟨q, 0, none⟩ = some (.int .i64 h)) (ho : rngTo F l h n = true) :
    Calls Tryd.prog 94 #[.slice A n c, .func (Fn.func 92) #[] #[.pointer (some ⟨p, 0, none⟩), .pointer (some ⟨q, 0, none⟩)]] w fun e w' => e = .returned (.int .i64 (-1)) ∧ Below w.heap.size w w' := by
  have HP := vl hs
  have HO := vl ho
  have HT := vl hp
  have HQ := vl hq
  clear hs ho hp hq
  go_enter Tryd.func94, Tryd.ntmps94
  go_wp2
  go_loopw [8] (fun i wr => ∃ k : Nat, k ≤ n ∧ i = .int .i64 k ∧ Veil (Below w.heap.size w wr)) (fun i _ => n - (intOf i).toNat)
  case atStart => exact ⟨0, by omega, rfl, vl (Below.refl _ _)⟩
  case round =>
    obtain ⟨k, hk, rfl, HB⟩ := hrel
    by_cases hlt : k < n
    · obtain ⟨g, rfl, hc⟩ := (HP.out.below HB.out) (by omega)
      have c0 := hc k hlt
      have HK := vl (rngTo_iff.1 HO.out k hlt)
      have HT1 := vl ((HB.out.cell (cell_lt HT.out)).trans HT.out)
      have HQ1 := vl ((HB.out.cell (cell_lt HQ.out)).trans HQ.out)
      clear hc
      go_wp2_with fail
      refine (outs_impl (F k) l h p q _ HT1.out HQ1.out).mono ?_
      rintro e w1 ⟨rfl, hb1⟩
      rw [HK.out]
      have HB1 := vl (HB.out.trans (hb1.mono HB.out.size))
      clear hb1
      go_wp2
      go_roundw
      case rel => exact ⟨k + 1, by omega, by go_num, HB1⟩
      case measure => simp [intOf]; omega
    · go_wp2
      go_ret
      exact ⟨rfl, HB.out⟩
def SomeN (n : Nat) (w : World) (e : Ending) (w' : World) : Prop := ∃ k : Nat, k < n ∧ e = .returned (.int .i64 (k : Int)) ∧ Below w.heap.size w w'
set_option maxHeartbeats 1000000 in
theorem iidx_yes (A : Option Addr) (n c : Nat) (F : Nat → Int) (l h : Int) (p q : Nat) (w : World) (hn : n ≤ 1048576) (hs : SrcG w A n F) (hp : w.cell? ⟨p, 0, none⟩ = some (.int .i64 l)) (hq : w.cell? ⟨q, 0, none⟩ = some (.int .i64 h)) (ho : rngTo F l h n = false) :
    Calls Tryd.prog 94 #[.slice A n c, .func (Fn.func 92) #[] #[.pointer (some ⟨p, 0, none⟩), .pointer (some ⟨q, 0, none⟩)]] w (SomeN n w) := by
  have HP := vl hs
  have HO := vl ho
  have HT := vl hp
  have HQ := vl hq
  clear hs ho hp hq
  go_enter Tryd.func94, Tryd.ntmps94
  go_wp2
  go_loopw [8] (fun i wr => ∃ k : Nat, k ≤ n ∧ i = .int .i64 k ∧ Veil (rngTo F l h k = true) ∧ Veil (Below w.heap.size w wr)) (fun i _ => n - (intOf i).toNat)
  case atStart => exact ⟨0, by omega, rfl, vl rfl, vl (Below.refl _ _)⟩
  case round =>
    obtain ⟨k, hk, rfl, HA, HB⟩ := hrel
    by_cases hlt : k < n
    · obtain ⟨g, rfl, hc⟩ := (HP.out.below HB.out) (by omega)
      have c0 := hc k hlt
      have HT1 := vl ((HB.out.cell (cell_lt HT.out)).trans HT.out)
      have HQ1 := vl ((HB.out.cell (cell_lt HQ.out)).trans HQ.out)
      clear hc
      cases hkk : inB (F k) l h with
      | true =>
        have HK := vl hkk
        have HN := vl (show rngTo F l h (k + 1) = true by rw [rngTo, HA.out, hkk]; rfl)
        clear hkk
        go_wp2_with fail
        refine (outs_impl (F k) l h p q _ HT1.out HQ1.out).mono ?_
        rintro e w1 ⟨rfl, hb1⟩
        rw [HK.out]
        have HB1 := vl (HB.out.trans (hb1.mono HB.out.size))
        clear hb1
        go_wp2
        go_roundw
        case rel => exact ⟨k + 1, by omega, by go_num, HN, HB1⟩
        case measure => simp [intOf]; omega
      | false =>
        have HK := vl hkk
        clear hkk
        go_wp2_with fail
        refine (outs_impl (F k) l h p q _ HT1.out HQ1.out).mono ?_
        rintro e w1 ⟨rfl, hb1⟩
        rw [HK.out]
        have HB1 := vl (HB.out.trans (hb1.mono HB.out.size))
        clear hb1
        go_wp2
        go_ret
        exact ⟨k, hlt, rfl, HB1.out⟩
    · obtain rfl : k = n := by omega
      exact absurd (HA.out.symm.trans HO.out) (by decide)
theorem iany_impl (A : Option Addr) (n c : Nat) (F : Nat → Int) (l h : Int) (p q : Nat) (w : World) (hn : n ≤ 1048576) (hs : SrcG w A n F) (hp : w.cell? ⟨p, 0, none⟩ = some (.int .i64 l)) (hq : w.cell? ⟨q, 0, none⟩ = some (.int .i64 h)) (b : Bool) (ho : rngTo F l h n = b) :
    Calls Tryd.prog 61 #[.slice A n c, .func (Fn.func 92) #[] #[.pointer (some ⟨p, 0, none⟩), .pointer (some ⟨q, 0, none⟩)]] w (GivesB w (!b)) := by
  have HP := vl hs
  have HO := vl ho
  have HT := vl hp
  have HQ := vl hq
  clear hs ho hp hq
  cases b with
  | true =>
    go_enter Tryd.func61, Tryd.ntmps61
    go_wp2_with fail
    refine (iidx_no _ _ _ F l h p q _ hn HP.out HT.out HQ.out HO.out).mono ?_
    rintro e w1 ⟨rfl, hb1⟩
    have HB1 := vl hb1
    clear hb1
    go_wp2
    go_ret
    exact ⟨rfl, HB1.out⟩
  | false =>
    go_enter Tryd.func61, Tryd.ntmps61
    go_wp2_with fail
    refine (iidx_yes _ _ _ F l h p q _ hn HP.out HT.out HQ.out HO.out).mono ?_
    rintro e w1 ⟨k, hk, rfl, hb1⟩
    have HB1 := vl hb1
    have k0 : (0 : Int) ≤ (k : Int) := by omega
    clear hb1
    go_wp2
    go_ret
    exact ⟨rfl, HB1.out⟩
set_option maxHeartbeats 1000000 in
theorem allw_impl (A : Option Addr) (n c : Nat) (F : Nat → Int) (l h : Int) (w : World) (hn : n ≤ 1048576) (hs : SrcG w A n F) (b : Bool) (hb : rngTo F l h n = b) :
    Calls Tryd.prog 54 #[.slice A n c, .int .i64 l, .int .i64 h] w (GivesB w b) := by
  obtain ⟨W, hW⟩ : ∃ W, W = (w.alloc (.cells #[.int .i64 l] 3)).alloc (.cells #[.int .i64 h] 3) := ⟨_, rfl⟩
  have HB0 := vl (show Below w.heap.size w W by rw [hW]; exact ((Below.refl w.heap.size w).alloc (Nat.le_refl _) _).alloc (by simp) _)
  have HP := vl (hs.below HB0.out)
  have HT := vl (show W.cell? ⟨w.heap.size, 0, none⟩ = some (.int .i64 l) by rw [hW]; simp)
  have HQ := vl (show W.cell? ⟨w.heap.size + 1, 0, none⟩ = some (.int .i64 h) by rw [hW]; simp)
  have HR := vl hb
  have HW := vl hW
  clear hs hb hW
  go_enter Tryd.func54, Tryd.ntmps54
  go_wp2_with fail
  try simp only [World.size_alloc]
  rw [← HW.out]
  refine (iany_impl _ _ _ F l h _ _ _ hn HP.out HT.out HQ.out _ HR.out).mono ?_
  rintro e w1 ⟨rfl, hb1⟩
  have HB1 := vl (HB0.out.trans (hb1.mono HB0.out.size))
  clear hb1
  cases b
  all_goals
    go_wp2
    go_ret
    exact ⟨rfl, HB1.out⟩
theorem wg_sw {n : Nat} {W : Nat → Int} (h : rngTo W 0 1000 n = true) (h11 : n ≤ 11) : sw n W = sumTo W n := sw_yes ⟨by omega, fun i hi => by
  have := inB_iff.1 (rngTo_iff.1 h i hi); omega⟩
set_option maxHeartbeats 1000000 in
theorem wg_impl (A : Option Addr) (n c : Nat) (W : Nat → Int) (w : World) (hn : n ≤ 1048576) (hs : SrcG w A n W) (b : Bool) (hb : wgOk n W = b) :
    Calls Tryd.prog 55 #[.slice A n c] w (GivesB w b) := by
  have HP := vl hs
  have HR := vl hb
  clear hs hb
  by_cases h11 : 11 < n
  · have H := vl (show wgOk n W = false by unfold wgOk; rw [decide_eq_false (by omega), Bool.false_and])
    go_enter Tryd.func55, Tryd.ntmps55
    go_wp2
    go_ret
    exact ⟨ret_bool (H.out.symm.trans HR.out), Below.refl _ _⟩
  have h12 : n ≤ 11 := by omega
  clear h11
  cases hr : rngTo W 0 1000 n with
  | false =>
    have H := vl (show wgOk n W = false by unfold wgOk; rw [hr, Bool.false_and, Bool.and_false])
    have HRR := vl hr
    clear hr
    go_enter Tryd.func55, Tryd.ntmps55
    go_wp2_with fail
    refine (allw_impl _ _ _ W 0 1000 _ hn HP.out _ HRR.out).mono ?_
    rintro e w1 ⟨rfl, hb1⟩
    have HB1 := vl hb1
    clear hb1
    go_wp2
    go_ret
    exact ⟨ret_bool (H.out.symm.trans HR.out), HB1.out⟩
  | true =>
    have H := vl (show wgOk n W = decide (0 < sw n W) by unfold wgOk; rw [hr, decide_eq_true h12, Bool.true_and, Bool.true_and, wg_sw hr h12])
    have HRR := vl hr
    clear hr
    generalize hz : sw n W = z at H
    have HZ := vl hz
    clear hz
    go_enter Tryd.func55, Tryd.ntmps55
    go_wp2_with fail
    refine (allw_impl _ _ _ W 0 1000 _ hn HP.out _ HRR.out).mono ?_
    rintro e w1 ⟨rfl, hb1⟩
    have HB1 := vl hb1
    have HP1 := vl (HP.out.below hb1)
    clear hb1
    go_wp2_with fail
    refine (weights_impl _ _ _ W _ hn HP1.out).mono ?_
    rintro e w2 ⟨rfl, rfl⟩
    rw [HZ.out]
    by_cases h0 : 0 < z
    · have H' := vl (H.out.trans (decide_eq_true h0))
      go_wp2
      go_ret
      exact ⟨ret_bool (by first | exact (H'.out.symm.trans HR.out) | (rw [← HR.out, H'.out]; simp; omega)), HB1.out⟩
    · have H' := vl (H.out.trans (decide_eq_false h0))
      go_wp2
      go_ret
      exact ⟨ret_bool (by first | exact (H'.out.symm.trans HR.out) | (rw [← HR.out, H'.out]; simp; omega)), HB1.out⟩
theorem tfOk_cases (T : Tf) : (tfOk T = false ∧ inB T.b 0 10000 = false) ∨ (tfOk T = false ∧ inB T.b 0 10000 = true ∧ inB T.p 0 100 = false) ∨ (tfOk T = false ∧ inB T.b 0 10000 = true ∧ inB T.p 0 100 = true ∧ ¬ T.n = 3) ∨
    (tfOk T = false ∧ inB T.b 0 10000 = true ∧ inB T.p 0 100 = true ∧ T.n = 3 ∧ Veil (rngTo T.C 0 10000 T.n = false)) ∨ (tfOk T = wgOk T.m T.W ∧ inB T.b 0 10000 = true ∧ inB T.p 0 100 = true ∧ T.n = 3 ∧ Veil (rngTo T.C 0 10000 T.n = true)) := by
  unfold tfOk
  cases inB T.b 0 10000
  · left; exact ⟨rfl, rfl⟩
  · cases inB T.p 0 100
    · right; left; exact ⟨rfl, rfl, rfl⟩
    · by_cases h3 : T.n = 3
      · cases hr : rngTo T.C 0 10000 T.n
        · right; right; right; left; exact ⟨by simp, rfl, rfl, h3, vl rfl⟩
        · right; right; right; right; exact ⟨by simp [h3], rfl, rfl, h3, vl rfl⟩
      · right; right; left; exact ⟨by simp [h3], rfl, rfl, h3⟩
set_option maxHeartbeats 2000000 in
theorem tfok_impl (T : Tf) (A D : Option Addr) (c d : Nat) (w : World) (hn : T.n ≤ 1048576) (hm : T.m ≤ 1048576) (hA : SrcG w A T.n T.C) (hD : SrcG w D T.m T.W) :
    Calls Tryd.prog 20 #[.agg #[.int .i64 T.b, .int .i64 T.p, .slice A T.n c, .slice D T.m d]] w (GivesB w (tfOk T)) := by
  have HB0 := vl ((Below.refl w.heap.size w).alloc (Nat.le_refl _) (.cells #[.int .i64 T.b, .int .i64 T.p, .slice A T.n c, .slice D T.m d] 26))
  have HA := vl (hA.below HB0.out)
  have HD := vl (hD.below HB0.out)
  have HX := vl (Box4.new w (.int .i64 T.b) (.int .i64 T.p) (.slice A T.n c) (.slice D T.m d) 26)
  clear hA hD
  rcases tfOk_cases T with ⟨h, h1⟩ | ⟨h, h1, h2⟩ | ⟨h, h1, h2, h3⟩ | ⟨h, h1, h2, h3, HV⟩ | ⟨h, h1, h2, h3, HV⟩
  · have H := vl h
    clear h
    go_enter Tryd.func20, Tryd.ntmps20
    go_wp2_with (go_at_call 46; refine (within_i _ _ _ _).mono ?_; rintro e w' ⟨rfl, rfl⟩)
    go_ret
    exact ⟨ret_bool H.out.symm, HB0.out⟩
  · have H := vl h
    clear h
    go_enter Tryd.func20, Tryd.ntmps20
    go_wp2_with (go_at_call 46; refine (within_i _ _ _ _).mono ?_; rintro e w' ⟨rfl, rfl⟩)
    go_ret
    exact ⟨ret_bool H.out.symm, HB0.out⟩
  · have H := vl h
    have h3' : ¬ ((T.n : Int) = 3) := by omega
    clear h
    go_enter Tryd.func20, Tryd.ntmps20
    go_wp2_with (go_at_call 46; refine (within_i _ _ _ _).mono ?_; rintro e w' ⟨rfl, rfl⟩)
    go_ret
    exact ⟨ret_bool (by first | exact H.out.symm | (rw [H.out]; simp; omega)), HB0.out⟩
  · have H := vl h
    have h3' : ((T.n : Int) = 3) := by omega
    have H3 := vl h3
    clear h h3
    go_enter Tryd.func20, Tryd.ntmps20
    go_wp2_with (go_at_call 46; refine (within_i _ _ _ _).mono ?_; rintro e w' ⟨rfl, rfl⟩)
    refine (allw_impl _ _ _ T.C 0 10000 _ hn HA.out _ HV.out).mono ?_
    rintro e w1 ⟨rfl, hb1⟩
    have HB1 := vl (HB0.out.trans (hb1.mono HB0.out.size))
    clear hb1
    go_wp2
    go_ret
    exact ⟨ret_bool H.out.symm, HB1.out⟩
  · have h3' : ((T.n : Int) = 3) := by omega
    have H3 := vl h3
    cases hw : wgOk T.m T.W
    all_goals
      have H := vl (h.trans hw)
      have HW := vl hw
      clear h h3 hw
      go_enter Tryd.func20, Tryd.ntmps20
      go_wp2_with (go_at_call 46; refine (within_i _ _ _ _).mono ?_; rintro e w' ⟨rfl, rfl⟩)
      refine (allw_impl _ _ _ T.C 0 10000 _ hn HA.out _ HV.out).mono ?_
      rintro e w1 ⟨rfl, hb1⟩
      have HB1 := vl (HB0.out.trans (hb1.mono HB0.out.size))
      have HX1 := vl (HX.out.below hb1)
      have HD1 := vl (HD.out.below hb1)
      have hl := HX1.out.lt
      obtain ⟨x0, x1, x2, x3⟩ := HX1.out.at
      clear hb1
      go_wp2_with fail
      refine (wg_impl _ _ _ T.W _ hm HD1.out _ HW.out).mono ?_
      rintro e w2 ⟨rfl, hb2⟩
      have HB2 := vl (HB1.out.trans (hb2.mono HB1.out.size))
      clear hb2
      go_wp2
      go_ret
      exact ⟨ret_bool H.out.symm, HB2.out⟩
end Go.Proofs.YtclofbknbfmmlaaDoor.C1
