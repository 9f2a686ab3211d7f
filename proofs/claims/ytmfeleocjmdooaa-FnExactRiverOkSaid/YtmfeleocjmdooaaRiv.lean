/- Rivers: slices of reaches, whether they are valid, and their totals. -/
import Derived.Test.YtmfeleocjmdooaaRchL
import Derived.Test.YtmfeleocjmdooaaEvM
import Derived.Laws.EntriesVeiled
namespace Go.Proofs.Ytmfeleocjmdooaa.C1
open Go.ChangeShapes Go.WideShapes Go.ChangeAt Go.RowKit
set_option linter.unusedVariables false

def sumT (R : Nat → Rc) : Nat → Int
  | 0 => 0
  | k + 1 => sumT R k + totZ (R k)
def okAll (R : Nat → Rc) : Nat → Bool
  | 0 => true
  | k + 1 => okAll R k && rOk (R k)
theorem okAll_iff {R : Nat → Rc} {n : Nat} : okAll R n = true ↔ ∀ i, i < n → rOk (R i) = true := by
  induction n with
  | zero => simp [okAll]
  | succ n ih =>
    simp only [okAll, Bool.and_eq_true, ih]
    constructor
    · rintro ⟨h1, h2⟩ i hi
      rcases Nat.lt_or_ge i n with h | h
      · exact h1 i h
      · obtain rfl : i = n := by omega
        exact h2
    · intro h
      exact ⟨fun i hi => h i (by omega), h n (by omega)⟩
theorem okAll_no {R : Nat → Rc} {n k : Nat} (hk : k < n) (h : rOk (R k) = false) : okAll R n = false := by
  rw [Bool.eq_false_iff]
  intro h'
  rw [okAll_iff.1 h' k hk] at h
  cases h
theorem sumT_bd {R : Nat → Rc} {n : Nat} (h : okAll R n = true) : ∀ k, k ≤ n → 0 ≤ sumT R k ∧ sumT R k ≤ k * 1000000000 := by
  intro k
  induction k with
  | zero => intro _; simp [sumT]
  | succ k ih =>
    intro hk
    have h1 := ih (by omega)
    have H := rOk_iff.1 (okAll_iff.1 h k (by omega))
    have h2 := H.t0.2
    have h3 := H.t1
    unfold sumT
    omega
theorem sumT_mono {R : Nat → Rc} {n : Nat} (h : okAll R n = true) {k : Nat} (hk : k ≤ n) : sumT R k ≤ sumT R n := by
  obtain ⟨d, rfl⟩ : ∃ d, n = k + d := ⟨n - k, by omega⟩
  induction d with
  | zero => exact Int.le_refl _
  | succ d ih =>
    have hd : okAll R (k + d) = true := okAll_iff.2 fun i hi => okAll_iff.1 h i (by omega)
    have := ih hd (by omega)
    have := (rOk_iff.1 (okAll_iff.1 h (k + d) (by omega))).t0.2
    show _ ≤ sumT R (k + d) + totZ (R (k + d))
    omega
def riverB (n : Nat) (R : Nat → Rc) : Bool := inB (n : Int) 1 6 && (okAll R n && decide (sumT R n ≤ 1000000000))
def rivT (n : Nat) (R : Nat → Rc) : Int := if riverB n R = true then sumT R n else 0
theorem riv_len {n : Nat} {R : Nat → Rc} (h : inB (n : Int) 1 6 = false) : riverB n R = false := by unfold riverB; rw [h, Bool.false_and]
theorem riv_bad {n : Nat} {R : Nat → Rc} (h : okAll R n = false) : riverB n R = false := by unfold riverB; rw [h, Bool.false_and, Bool.and_false]
theorem riv_ok {n : Nat} {R : Nat → Rc} (h : inB (n : Int) 1 6 = true) (h' : okAll R n = true) : riverB n R = decide (sumT R n ≤ 1000000000) := by unfold riverB; rw [h, h', Bool.true_and, Bool.true_and]
theorem riv_parts {n : Nat} {R : Nat → Rc} (h : riverB n R = true) : 1 ≤ n ∧ n ≤ 6 ∧ okAll R n = true ∧ sumT R n ≤ 1000000000 := by
  unfold riverB at h
  simp only [Bool.and_eq_true, decide_eq_true_eq, inB_iff] at h
  exact ⟨by omega, by omega, h.2.1, h.2.2⟩

/-- A slice of reaches in a block of plain cells. -/
def Rvr (w : World) (A : Option Addr) (n : Nat) (R : Nat → Rc) : Prop :=
  0 < n → ∃ g o, A = some ⟨g, o, none⟩ ∧ ∀ i, i < n → ∃ Ai Di ci di, w.cell? ⟨g, o + i * 3, none⟩ = some (.slice Ai (R i).n ci) ∧ w.cell? ⟨g, o + i * 3 + 1, none⟩ = some (.int .i64 (R i).v) ∧ w.cell? ⟨g, o + i * 3 + 2, none⟩ = some (.slice Di (R i).m di) ∧
    (R i).m ≤ di ∧ Hid (Pts w Ai (R i).n (R i).X (R i).Y) ∧ Hid (Ints w Di (R i).m (R i).Z)
theorem Rvr.below {w w' : World} {A : Option Addr} {n : Nat} {R : Nat → Rc} (h : Rvr w A n R) (hb : Below w.heap.size w w') : Rvr w' A n R := fun hn => by
  obtain ⟨g, o, e, hc⟩ := h hn
  refine ⟨g, o, e, fun i hi => ?_⟩
  obtain ⟨Ai, Di, ci, di, h1, h2, h3, h4, h5, h6⟩ := hc i hi
  exact ⟨Ai, Di, ci, di, (hb.cell (cell_lt h1)).trans h1, (hb.cell (cell_lt h2)).trans h2, (hb.cell (cell_lt h3)).trans h3, h4, Lib.hid (h5.out.below hb), Lib.hid (h6.out.below hb)⟩
/-- All slices of a river are of modest length. -/
def Small (n : Nat) (R : Nat → Rc) : Prop := ∀ i, i < n → (R i).n ≤ 1048576 ∧ (R i).m ≤ 1048576

theorem okAll_to {R : Nat → Rc} {n : Nat} : allTo (fun k => rOk (R k)) n = okAll R n := by
  induction n with
  | zero => rfl
  | succ n ih => rw [allTo, okAll, ih]
set_option maxHeartbeats 1000000 in
theorem evr_one (P : Bool) (q : Nat) (k : Nat) (R : Nat → Rc) (Ai Di : Option Addr) (ci di : Nat) (w : World) (hq : w.cell? ⟨q, 0, none⟩ = some (.func (Fn.func 120) #[] #[]))
    (hf : ∀ w', Below w.heap.size w w' → Calls Try.prog 120 #[.agg #[.slice Ai (R k).n ci, .int .i64 (R k).v, .slice Di (R k).m di]] w' fun e w'' => e = .returned (.bool P) ∧ Below w'.heap.size w' w'') :
    Calls Try.prog 166 #[.agg #[.slice Ai (R k).n ci, .int .i64 (R k).v, .slice Di (R k).m di], .pointer (some ⟨q, 0, none⟩)] w fun e w' => e = .returned (.bool (!P)) ∧ Below w.heap.size w w' := by
  have hlt := cell_lt hq
  have HF := vl hf
  clear hf
  cases P
  all_goals
    go_enter Try.func166, Try.ntmps166
    go_wp2_with fail
    refine (HF.out _ ((Below.refl _ _).alloc (Nat.le_refl _) _)).mono ?_
    rintro e w1 ⟨rfl, hb1⟩
    have HB1 := vl (((Below.refl w.heap.size w).alloc (Nat.le_refl _) _).trans (hb1.mono (by simp)))
    clear hb1
    go_wp2
    go_ret
    exact ⟨rfl, HB1.out⟩
set_option maxHeartbeats 1000000 in
theorem evr_idx (P : Nat → Bool) (q : Nat) (A : Option Addr) (n c : Nat) (R : Nat → Rc) (w : World) (hn : n ≤ 1048576) (hp : Rvr w A n R) (hq : w.cell? ⟨q, 0, none⟩ = some (.func (Fn.func 120) #[] #[]))
    (hf : ∀ (k : Nat) (Ai Di : Option Addr) (ci di : Nat) (w' : World), k < n → Pts w' Ai (R k).n (R k).X (R k).Y → Ints w' Di (R k).m (R k).Z → Below w.heap.size w w' → Calls Try.prog 120 #[.agg #[.slice Ai (R k).n ci, .int .i64 (R k).v, .slice Di (R k).m di]] w' fun e w'' => e = .returned (.bool (P k)) ∧ Below w'.heap.size w' w'') :
    Calls Try.prog 197 #[.slice A n c, .func (Fn.func 166) #[] #[.pointer (some ⟨q, 0, none⟩)]] w fun e w' => ((allTo P n = true ∧ e = .returned (.int .i64 (-1))) ∨ (allTo P n = false ∧ ∃ k : Nat, e = .returned (.int .i64 (k : Int)))) ∧ Below w.heap.size w w' := by
  have HP := vl hp
  have HQ := vl hq
  have HF := vl hf
  clear hp hq hf
  go_enter Try.func197, Try.ntmps197
  go_wp2
  go_loopw [8] (fun i wr => ∃ k : Nat, k ≤ n ∧ i = .int .i64 k ∧ Veil (allTo P k = true) ∧ Veil (Below w.heap.size w wr)) (fun i _ => n - (intOf i).toNat)
  case atStart => exact ⟨0, by omega, rfl, vl rfl, vl (Below.refl _ _)⟩
  case round =>
    obtain ⟨k, hk, rfl, HA, HB⟩ := hrel
    by_cases hlt : k < n
    · obtain ⟨g, o, rfl, hc⟩ := (HP.out.below HB.out) (by omega)
      obtain ⟨Ai, Di, ci, di, x0, x1, x2, _, HE0, HE1⟩ := hc k hlt
      have hg := cell_lt x0
      clear hc
      have HQ1 := vl ((HB.out.cell (cell_lt HQ.out)).trans HQ.out)
      cases hkk : P k with
      | true =>
        have HN := vl (allTo_succ HA.out hkk)
        have HK := vl hkk
        clear hkk
        go_wp2_with fail
        refine (evr_one (P k) q k R Ai Di ci di _ HQ1.out (fun w' h => HF.out k Ai Di ci di w' hlt (HE0.out.below h) (HE1.out.below h) (HB.out.trans (h.mono HB.out.size)))).mono ?_
        rintro e w1 ⟨rfl, hb1⟩
        rw [HK.out]
        have HB1 := vl (HB.out.trans (hb1.mono HB.out.size))
        clear hb1
        go_wp2
        go_roundw
        case rel => exact ⟨k + 1, by omega, by go_num, HN, HB1⟩
        case measure => simp [intOf]; omega
      | false =>
        have HN := vl (allTo_no hlt hkk)
        have HK := vl hkk
        clear hkk
        go_wp2_with fail
        refine (evr_one (P k) q k R Ai Di ci di _ HQ1.out (fun w' h => HF.out k Ai Di ci di w' hlt (HE0.out.below h) (HE1.out.below h) (HB.out.trans (h.mono HB.out.size)))).mono ?_
        rintro e w1 ⟨rfl, hb1⟩
        rw [HK.out]
        have HB1 := vl (HB.out.trans (hb1.mono HB.out.size))
        clear hb1
        go_wp2
        go_ret
        exact ⟨Or.inr ⟨HN.out, k, rfl⟩, HB1.out⟩
    · obtain rfl : k = n := by omega
      go_wp2
      go_ret
      exact ⟨Or.inl ⟨HA.out, rfl⟩, HB.out⟩
theorem evr_con (P : Nat → Bool) (q : Nat) (A : Option Addr) (n c : Nat) (R : Nat → Rc) (w : World) (hn : n ≤ 1048576) (hp : Rvr w A n R) (hq : w.cell? ⟨q, 0, none⟩ = some (.func (Fn.func 120) #[] #[]))
    (hf : ∀ (k : Nat) (Ai Di : Option Addr) (ci di : Nat) (w' : World), k < n → Pts w' Ai (R k).n (R k).X (R k).Y → Ints w' Di (R k).m (R k).Z → Below w.heap.size w w' → Calls Try.prog 120 #[.agg #[.slice Ai (R k).n ci, .int .i64 (R k).v, .slice Di (R k).m di]] w' fun e w'' => e = .returned (.bool (P k)) ∧ Below w'.heap.size w' w'') :
    Calls Try.prog 165 #[.slice A n c, .func (Fn.func 166) #[] #[.pointer (some ⟨q, 0, none⟩)]] w fun e w' => e = .returned (.bool (!allTo P n)) ∧ Below w.heap.size w w' := by
  have HP := vl hp
  have HQ := vl hq
  have HF := vl hf
  clear hp hq hf
  go_enter Try.func165, Try.ntmps165
  go_wp2_with fail
  refine (evr_idx P q A n c R _ hn HP.out HQ.out HF.out).mono ?_
  rintro e w1 ⟨⟨ha, rfl⟩ | ⟨ha, j, rfl⟩, hb1⟩
  · have HV := vl ha
    have HB1 := vl hb1
    clear hb1 ha
    go_wp2
    go_ret
    exact ⟨by rw [HV.out]; rfl, HB1.out⟩
  · have HV := vl ha
    have HB1 := vl hb1
    have k0 : (0 : Int) ≤ (j : Int) := by omega
    clear hb1 ha
    go_wp2
    go_ret
    exact ⟨by rw [HV.out]; rfl, HB1.out⟩
theorem evr_every (P : Nat → Bool) (A : Option Addr) (n c : Nat) (R : Nat → Rc) (w : World) (hn : n ≤ 1048576) (hp : Rvr w A n R)
    (hf : ∀ (k : Nat) (Ai Di : Option Addr) (ci di : Nat) (w' : World), k < n → Pts w' Ai (R k).n (R k).X (R k).Y → Ints w' Di (R k).m (R k).Z → Below w.heap.size w w' → Calls Try.prog 120 #[.agg #[.slice Ai (R k).n ci, .int .i64 (R k).v, .slice Di (R k).m di]] w' fun e w'' => e = .returned (.bool (P k)) ∧ Below w'.heap.size w' w'') :
    Calls Try.prog 119 #[.slice A n c, .func (Fn.func 120) #[] #[]] w fun e w' => e = .returned (.bool (allTo P n)) ∧ Below w.heap.size w w' := by
  have HP := vl hp
  have HF := vl hf
  clear hp hf
  cases hv : allTo P n
  all_goals
    have HV := vl hv
    clear hv
    go_enter Try.func119, Try.ntmps119
    go_wp2_with fail
    refine (evr_con P _ A n c R _ hn ?_ ?_ ?_).mono ?_
    · exact HP.out.below ((Below.refl _ _).alloc (Nat.le_refl _) _)
    · simp; done
    · intro k Ai Di ci di w' hk h0 h1 h
      exact HF.out k Ai Di ci di w' hk h0 h1 (((Below.refl w.heap.size w).alloc (Nat.le_refl _) _).trans (h.mono (by simp)))
    rintro e w1 ⟨rfl, hb1⟩
    rw [HV.out]
    have HB1 := vl (((Below.refl w.heap.size w).alloc (Nat.le_refl _) _).trans (hb1.mono (by simp)))
    clear hb1
    go_wp2
    go_ret
    exact ⟨rfl, HB1.out⟩
set_option maxHeartbeats 1000000 in
theorem sums_impl (A : Option Addr) (n c : Nat) (R : Nat → Rc) (w : World) (hn : n ≤ 6) (hs : Small n R) (ho : okAll R n = true) (hr : Rvr w A n R) :
    Calls Try.prog 121 #[.slice A n c] w fun e w' => e = .returned (.int .i64 (sumT R n)) ∧ Below w.heap.size w w' := by
  have HR := Lib.hid hr
  have HO := Lib.hid ho
  have HS := Lib.hid hs
  clear hr ho hs
  go_enter Try.func121, Try.ntmps121
  go_wp2
  go_loopw [3, 8] (fun s i wr => ∃ k : Nat, k ≤ n ∧ i = .int .i64 k ∧ s = .int .i64 (sumT R k) ∧ Hid (Below w.heap.size w wr)) (fun _ i _ => n - (intOf i).toNat)
  case atStart => exact ⟨0, by omega, rfl, rfl, Lib.hid (Below.refl _ _)⟩
  case round =>
    obtain ⟨k, hk, rfl, rfl, HB⟩ := hrel
    by_cases hlt : k < n
    · obtain ⟨g, o, rfl, hc⟩ := (HR.out.below HB.out) (by omega)
      obtain ⟨Ai, Di, ci, di, c0, c1, c2, _, hp, hd⟩ := hc k hlt
      have hg := cell_lt c0
      have HT := Lib.hid (totR_of (okAll_iff.1 HO.out k hlt))
      have b0 := (sumT_bd HO.out k (by omega)).1
      have b1 := (sumT_bd HO.out k (by omega)).2
      have b2 := (rOk_iff.1 (okAll_iff.1 HO.out k hlt)).t0.2
      have b3 := (rOk_iff.1 (okAll_iff.1 HO.out k hlt)).t1
      have b4 : sumT R k ≤ 6000000000 := by omega
      obtain ⟨s1, s2⟩ := HS.out k hlt
      clear hc b1
      go_wp2_with fail
      refine (tot_impl (R k) _ _ _ _ _ s1 s2 (hp.out.alloc _) (hd.out.alloc _)).mono ?_
      rintro e w1 ⟨rfl, hb1⟩
      rw [HT.out]
      have HB1 := Lib.hid ((HB.out.alloc HB.out.size _).trans (hb1.mono (by have := HB.out.size; simp; omega)))
      clear hb1
      go_wp2
      go_roundw
      case rel => exact ⟨k + 1, by omega, by go_num, by rw [sumT], HB1⟩
      case measure => simp [intOf]; omega
    · obtain rfl : k = n := by omega
      go_wp2
      go_ret
      exact ⟨rfl, HB.out⟩
theorem riv_impl (A : Option Addr) (n c : Nat) (R : Nat → Rc) (w : World) (hn : n ≤ 1048576) (hs : Small n R) (hr : Rvr w A n R) :
    Calls Try.prog 47 #[.slice A n c] w fun e w' => e = .returned (.bool (riverB n R)) ∧ Below w.heap.size w w' := by
  have HR := Lib.hid hr
  have HS := Lib.hid hs
  clear hr hs
  by_cases h1 : n < 1
  · have H := Lib.hid (riv_len (R := R) (n := n) (inB_no (by omega)))
    go_enter Try.func47, Try.ntmps47
    go_wp2
    go_ret
    exact ⟨ret_bool H.out.symm, Below.refl _ _⟩
  by_cases h6 : 6 < n
  · have H := Lib.hid (riv_len (R := R) (n := n) (inB_no (by omega)))
    go_enter Try.func47, Try.ntmps47
    go_wp2
    go_ret
    exact ⟨ret_bool H.out.symm, Below.refl _ _⟩
  have b1 : 1 ≤ n := by omega
  have b6 : n ≤ 6 := by omega
  clear h1 h6
  go_enter Try.func47, Try.ntmps47
  cases ho : okAll R n with
  | false =>
    have H := Lib.hid (riv_bad ho)
    have HO := Lib.hid ho
    clear ho
    go_wp2_with fail
    refine (evr_every (fun k => rOk (R k)) _ _ _ R _ (by omega) HR.out (fun k Ai Di ci di w' hk hp hd _ => ok_impl (R k) _ _ _ _ _ (HS.out k hk).1 (HS.out k hk).2 hp hd)).mono ?_
    rintro e w1 ⟨rfl, hb1⟩
    rw [okAll_to, HO.out]
    have HB1 := Lib.hid hb1
    clear hb1
    go_wp2
    go_ret
    exact ⟨ret_bool H.out.symm, HB1.out⟩
  | true =>
    have H := Lib.hid (riv_ok (inB_yes (x := (n : Int)) (l := 1) (h := 6) (by omega) (by omega)) ho)
    have HO := Lib.hid ho
    clear ho
    go_wp2_with fail
    refine (evr_every (fun k => rOk (R k)) _ _ _ R _ (by omega) HR.out (fun k Ai Di ci di w' hk hp hd _ => ok_impl (R k) _ _ _ _ _ (HS.out k hk).1 (HS.out k hk).2 hp hd)).mono ?_
    rintro e w1 ⟨rfl, hb1⟩
    rw [okAll_to, HO.out]
    have HB1 := Lib.hid hb1
    have HR1 := Lib.hid (HR.out.below hb1)
    clear hb1
    go_wp2_with fail
    refine (sums_impl _ _ _ R _ b6 HS.out HO.out HR1.out).mono ?_
    rintro e w2 ⟨rfl, hb2⟩
    have HB2 := Lib.hid (HB1.out.trans (hb2.mono HB1.out.size))
    clear hb2
    go_wp2
    go_ret
    exact ⟨ret_bool H.out.symm, HB2.out⟩
theorem rivt_impl (A : Option Addr) (n c : Nat) (R : Nat → Rc) (w : World) (hn : n ≤ 1048576) (hs : Small n R) (hr : Rvr w A n R) :
    Calls Try.prog 50 #[.slice A n c] w fun e w' => e = .returned (.int .i64 (rivT n R)) ∧ Below w.heap.size w w' := by
  have HR := Lib.hid hr
  have HS := Lib.hid hs
  clear hr hs
  go_enter Try.func50, Try.ntmps50
  go_wp2_with fail
  refine (riv_impl _ _ _ R _ hn HS.out HR.out).mono ?_
  rintro e w1 ⟨rfl, hb1⟩
  have HB1 := Lib.hid hb1
  have HR1 := Lib.hid (HR.out.below hb1)
  clear hb1
  cases h : riverB n R with
  | false =>
    have H := Lib.hid (show rivT n R = 0 by unfold rivT; rw [h]; rfl)
    clear h
    go_wp2
    go_ret
    exact ⟨ret_int H.out.symm, HB1.out⟩
  | true =>
    have H := Lib.hid (show rivT n R = sumT R n by unfold rivT; rw [if_pos h])
    obtain ⟨_, b6, ho, _⟩ := riv_parts h
    have HO := Lib.hid ho
    clear h ho
    go_wp2_with fail
    refine (sums_impl _ _ _ R _ b6 HS.out HO.out HR1.out).mono ?_
    rintro e w2 ⟨rfl, hb2⟩
    have HB2 := Lib.hid (HB1.out.trans (hb2.mono HB1.out.size))
    clear hb2
    go_wp2
    go_ret
    exact ⟨ret_int H.out.symm, HB2.out⟩
def capS (R : Nat → Rc) (k : Nat) : Int := if sumT R k ≤ 1000000000 then sumT R k else 1000000001
theorem capS_next {R : Nat → Rc} {n k : Nat} (h : okAll R n = true) (hk : k < n) : capS R (k + 1) = min (capS R k + totZ (R k)) 1000000001 := by
  have h1 := (rOk_iff.1 (okAll_iff.1 h k hk)).t0.2
  have h2 := (sumT_bd h k (by omega)).1
  unfold capS
  rw [sumT]
  split <;> split <;> omega
theorem capS_bd {R : Nat → Rc} {n k : Nat} (h : okAll R n = true) (hk : k ≤ n) : 0 ≤ capS R k ∧ capS R k ≤ 1000000001 := by
  have h2 := (sumT_bd h k hk).1
  unfold capS
  split <;> omega
theorem capS_le {R : Nat → Rc} {n : Nat} : decide (capS R n ≤ 1000000000) = decide (sumT R n ≤ 1000000000) := by
  unfold capS
  split
  · rfl
  · rename_i h
    rw [show decide ((1000000001 : Int) ≤ 1000000000) = false from rfl, decide_eq_false h]
theorem okAll_le {R : Nat → Rc} {n k : Nat} (h : okAll R n = true) (hk : k ≤ n) : okAll R k = true := okAll_iff.2 fun i hi => okAll_iff.1 h i (by omega)
set_option maxHeartbeats 1000000 in
theorem riv_spec (A : Option Addr) (n c : Nat) (R : Nat → Rc) (w : World) (hn : n ≤ 1048576) (hs : Small n R) (hr : Rvr w A n R) :
    Calls Try.prog 45 #[.slice A n c] w fun e w' => e = .returned (.bool (riverB n R)) ∧ Below w.heap.size w w' := by
  have HR := Lib.hid hr
  have HS := Lib.hid hs
  clear hr hs
  go_enter Try.func45, Try.ntmps45
  go_wp2
  go_loopw [3, 4] (fun s i wr => ∃ k : Nat, k ≤ n ∧ i = .int .i64 k ∧ s = .int .i64 (capS R k) ∧ Hid (okAll R k = true) ∧ Hid (Below w.heap.size w wr)) (fun _ i _ => n - (intOf i).toNat)
  case atStart => exact ⟨0, by omega, rfl, rfl, Lib.hid (show okAll R 0 = true from rfl), Lib.hid (Below.refl _ _)⟩
  case round =>
    obtain ⟨k, hk, rfl, rfl, HA, HB⟩ := hrel
    by_cases hlt : k < n
    · obtain ⟨g, o, rfl, hc⟩ := (HR.out.below HB.out) (by omega)
      obtain ⟨Ai, Di, ci, di, c0, c1, c2, _, hp, hd⟩ := hc k hlt
      obtain ⟨s1, s2⟩ := HS.out k hlt
      clear hc
      cases hkk : rOk (R k) with
      | false =>
        have HK := Lib.hid hkk
        clear hkk
        go_wp2_with fail
        refine (ok_spec (R k) _ _ _ _ _ s1 s2 hp.out hd.out).mono ?_
        rintro e w1 ⟨rfl, hb1⟩
        rw [HK.out]
        have HB1 := Lib.hid (HB.out.trans (hb1.mono HB.out.size))
        clear hb1
        go_wp2
        go_ret
        exact ⟨ret_bool (riv_bad (okAll_no hlt HK.out)).symm, HB1.out⟩
      | true =>
        have HK := Lib.hid hkk
        obtain ⟨v0, v1, m1, HZ, t0, t1⟩ := inRange hkk
        have HA1 := Lib.hid (show okAll R (k + 1) = true by rw [okAll, HA.out, HK.out]; rfl)
        have HN := Lib.hid (capS_next HA1.out (Nat.lt_succ_self k))
        obtain ⟨q0, q1⟩ := capS_bd HA.out (Nat.le_refl k)
        clear hkk
        go_wp2_with fail
        refine (ok_spec (R k) _ _ _ _ _ s1 s2 hp.out hd.out).mono ?_
        rintro e w1 ⟨rfl, hb1⟩
        rw [HK.out]
        have HB1 := Lib.hid (HB.out.trans (hb1.mono HB.out.size))
        have d0 := (hb1.cell (cell_lt c0)).trans c0
        have d1 := (hb1.cell (cell_lt c1)).trans c1
        have d2 := (hb1.cell (cell_lt c2)).trans c2
        have HD1 := Lib.hid (hd.out.below hb1)
        clear hb1 c0 c1 c2
        go_wp2_with fail
        refine (sum_spec (R k) _ _ _ _ _ v0 v1 m1 HZ.out HD1.out).mono ?_
        rintro e w2 ⟨rfl, hb2⟩
        have HB2 := Lib.hid (HB1.out.trans (hb2.mono HB1.out.size))
        clear hb2 d0 d1 d2
        go_wp2
        all_goals
          go_roundw
          case rel => exact ⟨k + 1, by omega, by go_num, congrArg (Value.int .i64) (by rw [HN.out]; omega), HA1, HB2⟩
          case measure => simp [intOf]; omega
    · obtain rfl : k = n := by omega
      cases hi : inB (k : Int) 1 6 with
      | false =>
        have HI := Lib.hid hi
        clear hi
        go_wp2_with fail
        refine (in_spec _ _ _ _).mono ?_
        rintro e w' ⟨rfl, rfl⟩
        rw [HI.out]
        go_wp2
        go_ret
        exact ⟨ret_bool (riv_len HI.out).symm, HB.out⟩
      | true =>
        have HI := Lib.hid hi
        clear hi
        go_wp2_with fail
        refine (in_spec _ _ _ _).mono ?_
        rintro e w' ⟨rfl, rfl⟩
        rw [HI.out]
        go_wp2
        go_ret
        exact ⟨ret_bool (by rw [riv_ok HI.out HA.out, ← capS_le]), HB.out⟩
set_option maxHeartbeats 1000000 in
theorem rivt_spec (A : Option Addr) (n c : Nat) (R : Nat → Rc) (w : World) (hn : n ≤ 1048576) (hs : Small n R) (hr : Rvr w A n R) :
    Calls Try.prog 49 #[.slice A n c] w fun e w' => e = .returned (.int .i64 (rivT n R)) ∧ Below w.heap.size w w' := by
  have HR := Lib.hid hr
  have HS := Lib.hid hs
  clear hr hs
  cases h : riverB n R with
  | false =>
    have H := Lib.hid (show rivT n R = 0 by unfold rivT; rw [h]; rfl)
    have HF := Lib.hid h
    clear h
    go_enter Try.func49, Try.ntmps49
    go_wp2
    go_loopw [3, 4] (fun s i wr => s = .int .i64 0 ∧ i = .int .i64 0 ∧ Hid (Below w.heap.size w wr)) (fun _ i _ => n - (intOf i).toNat)
    case atStart => exact ⟨rfl, rfl, Lib.hid (Below.refl _ _)⟩
    case round =>
      obtain ⟨rfl, rfl, HB⟩ := hrel
      by_cases hlt : 0 < n
      · go_wp2_with fail
        refine (riv_spec _ _ _ R _ hn HS.out (HR.out.below HB.out)).mono ?_
        rintro e w1 ⟨rfl, hb1⟩
        rw [HF.out]
        have HB1 := Lib.hid (HB.out.trans (hb1.mono HB.out.size))
        clear hb1
        go_wp2
        go_ret
        exact ⟨ret_int H.out.symm, HB1.out⟩
      · go_wp2
        go_ret
        exact ⟨ret_int H.out.symm, HB.out⟩
  | true =>
    have H := Lib.hid (show rivT n R = sumT R n by unfold rivT; rw [if_pos h])
    obtain ⟨b1, b6, ho, _⟩ := riv_parts h
    have HO := Lib.hid ho
    have HF := Lib.hid h
    clear h ho
    go_enter Try.func49, Try.ntmps49
    go_wp2
    go_loopw [3, 4] (fun s i wr => ∃ k : Nat, k ≤ n ∧ i = .int .i64 k ∧ s = .int .i64 (sumT R k) ∧ Hid (Below w.heap.size w wr)) (fun _ i _ => n - (intOf i).toNat)
    case atStart => exact ⟨0, by omega, rfl, rfl, Lib.hid (Below.refl _ _)⟩
    case round =>
      obtain ⟨k, hk, rfl, rfl, HB⟩ := hrel
      by_cases hlt : k < n
      · have q0 := (sumT_bd HO.out k (by omega)).1
        have q1 : sumT R k ≤ 6000000000 := by have := (sumT_bd HO.out k (by omega)).2; omega
        obtain ⟨v0, v1, m1, HZ, t0, t1⟩ := inRange (okAll_iff.1 HO.out k hlt)
        go_wp2_with fail
        refine (riv_spec _ _ _ R _ hn HS.out (HR.out.below HB.out)).mono ?_
        rintro e w1 ⟨rfl, hb1⟩
        rw [HF.out]
        have HB1 := Lib.hid (HB.out.trans (hb1.mono HB.out.size))
        clear hb1
        obtain ⟨g, o, rfl, hc⟩ := (HR.out.below HB1.out) (by omega)
        obtain ⟨Ai, Di, ci, di, c0, c1, c2, _, hp, hd⟩ := hc k hlt
        clear hc
        go_wp2_with fail
        refine (sum_spec (R k) _ _ _ _ _ v0 v1 m1 HZ.out hd.out).mono ?_
        rintro e w2 ⟨rfl, hb2⟩
        have HB2 := Lib.hid (HB1.out.trans (hb2.mono HB1.out.size))
        clear hb2 c0 c1 c2
        go_wp2
        go_roundw
        case rel => exact ⟨k + 1, by omega, by go_num, by rw [sumT], HB2⟩
        case measure => simp [intOf]; omega
      · obtain rfl : k = n := by omega
        go_wp2
        go_ret
        exact ⟨ret_int H.out.symm, HB.out⟩
end Go.Proofs.Ytmfeleocjmdooaa.C1
