/- Rivers: slices of reaches, whether they are valid, and their totals. -/
import Derived.Test.YtolifdpbkdeeeaaRchL
namespace Go.Proofs.Ytolifdpbkdeeeaa.C1
open Go.ChangeShapes Go.WideShapes Go.ChangeAt Go.RowKit
set_option linter.unusedVariables false

def sumT (R : Nat → Rc) : Nat → Int
  | 0 => 0
  | k + 1 => sumT R k + totZ (R k)
def okAll (R : Nat → Rc) : Nat → Bool
  | 0 => true
  | k + 1 => okAll R k && rOk (R k)
theorem okAll_iff {R : Nat → Rc} {n : Nat} : okAll R n = true ↔ ∀ i, i < n → rOk (R i) = true := by
  induction n with
  | zero => simp [okAll]
  | succ n ih =>
    simp only [okAll, Bool.and_eq_true, ih]
    constructor
    · rintro ⟨h1, h2⟩ i hi
      rcases Nat.lt_or_ge i n with h | h
      · exact h1 i h
      · obtain rfl : i = n := by omega
        exact h2
    · intro h
      exact ⟨fun i hi => h i (by omega), h n (by omega)⟩
theorem okAll_no {R : Nat → Rc} {n k : Nat} (hk : k < n) (h : rOk (R k) = false) : okAll R n = false := by
  rw [Bool.eq_false_iff]
  intro h'
  rw [okAll_iff.1 h' k hk] at h
  cases h
theorem sumT_bd {R : Nat → Rc} {n : Nat} (h : okAll R n = true) : ∀ k, k ≤ n → 0 ≤ sumT R k ∧ sumT R k ≤ k * 1000000000 := by
  intro k
  induction k with
  | zero => intro _; simp [sumT]
  | succ k ih =>
    intro hk
    have h1 := ih (by omega)
    have H := rOk_iff.1 (okAll_iff.1 h k (by omega))
    have h2 := H.t0.2
    have h3 := H.t1
    unfold sumT
    omega
theorem sumT_mono {R : Nat → Rc} {n : Nat} (h : okAll R n = true) {k : Nat} (hk : k ≤ n) : sumT R k ≤ sumT R n := by
  obtain ⟨d, rfl⟩ : ∃ d, n = k + d := ⟨n - k, by omega⟩
  induction d with
  | zero => exact Int.le_refl _
  | succ d ih =>
    have hd : okAll R (k + d) = true := okAll_iff.2 fun i hi => okAll_iff.1 h i (by omega)
    have := ih hd (by omega)
    have := (rOk_iff.1 (okAll_iff.1 h (k + d) (by omega))).t0.2
    show _ ≤ sumT R (k + d) + totZ (R (k + d))
    omega
def riverB (n : Nat) (R : Nat → Rc) : Bool := inB (n : Int) 1 6 && (okAll R n && decide (sumT R n ≤ 1000000000))
def rivT (n : Nat) (R : Nat → Rc) : Int := if riverB n R = true then sumT R n else 0
theorem riv_len {n : Nat} {R : Nat → Rc} (h : inB (n : Int) 1 6 = false) : riverB n R = false := by unfold riverB; rw [h, Bool.false_and]
theorem riv_bad {n : Nat} {R : Nat → Rc} (h : okAll R n = false) : riverB n R = false := by unfold riverB; rw [h, Bool.false_and, Bool.and_false]
theorem riv_ok {n : Nat} {R : Nat → Rc} (h : inB (n : Int) 1 6 = true) (h' : okAll R n = true) : riverB n R = decide (sumT R n ≤ 1000000000) := by unfold riverB; rw [h, h', Bool.true_and, Bool.true_and]
theorem riv_parts {n : Nat} {R : Nat → Rc} (h : riverB n R = true) : 1 ≤ n ∧ n ≤ 6 ∧ okAll R n = true ∧ sumT R n ≤ 1000000000 := by
  unfold riverB at h
  simp only [Bool.and_eq_true, decide_eq_true_eq, inB_iff] at h
  exact ⟨by omega, by omega, h.2.1, h.2.2⟩

/-- A slice of reaches in a block of plain cells. -/
def Rvr (w : World) (A : Option Addr) (n : Nat) (R : Nat → Rc) : Prop :=
  0 < n → ∃ g o, A = some ⟨g, o, none⟩ ∧ ∀ i, i < n → ∃ Ai Di ci di, w.cell? ⟨g, o + i * 3, none⟩ = some (.slice Ai (R i).n ci) ∧ w.cell? ⟨g, o + i * 3 + 1, none⟩ = some (.int .i64 (R i).v) ∧ w.cell? ⟨g, o + i * 3 + 2, none⟩ = some (.slice Di (R i).m di) ∧
    (R i).m ≤ di ∧ Hid (Pts w Ai (R i).n (R i).X (R i).Y) ∧ Hid (Ints w Di (R i).m (R i).Z)
theorem Rvr.below {w w' : World} {A : Option Addr} {n : Nat} {R : Nat → Rc} (h : Rvr w A n R) (hb : Below w.heap.size w w') : Rvr w' A n R := fun hn => by
  obtain ⟨g, o, e, hc⟩ := h hn
  refine ⟨g, o, e, fun i hi => ?_⟩
  obtain ⟨Ai, Di, ci, di, h1, h2, h3, h4, h5, h6⟩ := hc i hi
  exact ⟨Ai, Di, ci, di, (hb.cell (cell_lt h1)).trans h1, (hb.cell (cell_lt h2)).trans h2, (hb.cell (cell_lt h3)).trans h3, h4, Lib.hid (h5.out.below hb), Lib.hid (h6.out.below hb)⟩
/-- All slices of a river are of modest length. -/
def Small (n : Nat) (R : Nat → Rc) : Prop := ∀ i, i < n → (R i).n ≤ 1048576 ∧ (R i).m ≤ 1048576

theorem isbad (r : Rc) (A D : Option Addr) (c d : Nat) (w : World) (hn : r.n ≤ 1048576) (hm : r.m ≤ 1048576) (hp : Pts w A r.n r.X r.Y) (hd : Ints w D r.m r.Z) (b : Bool) (hb : rOk r = b) :
    Calls Try.prog 74 #[.agg #[.slice A r.n c, .int .i64 r.v, .slice D r.m d]] w fun e w' => e = .returned (.bool (!b)) ∧ Below w.heap.size w w' := by
  have HP := Lib.hid hp
  have HD := Lib.hid hd
  have HB := Lib.hid hb
  clear hp hd hb
  go_enter Try.func74, Try.ntmps74
  go_wp2_with fail
  refine (ok_impl r _ _ _ _ _ hn hm (HP.out.alloc _) (HD.out.alloc _)).mono ?_
  rintro e w1 ⟨rfl, hb1⟩
  have HB1 := Lib.hid (((Below.refl w.heap.size w).alloc (Nat.le_refl _) _).trans (hb1.mono (by simp)))
  rw [HB.out]
  clear hb1
  go_wp2
  all_goals
    go_ret
    exact ⟨rfl, HB1.out⟩
set_option maxHeartbeats 1000000 in
theorem sums_impl (A : Option Addr) (n c : Nat) (R : Nat → Rc) (w : World) (hn : n ≤ 6) (hs : Small n R) (ho : okAll R n = true) (hr : Rvr w A n R) :
    Calls Try.prog 73 #[.slice A n c] w fun e w' => e = .returned (.int .i64 (sumT R n)) ∧ Below w.heap.size w w' := by
  have HR := Lib.hid hr
  have HO := Lib.hid ho
  have HS := Lib.hid hs
  clear hr ho hs
  go_enter Try.func73, Try.ntmps73
  go_wp2
  go_loopw [3, 8] (fun s i wr => ∃ k : Nat, k ≤ n ∧ i = .int .i64 k ∧ s = .int .i64 (sumT R k) ∧ Hid (Below w.heap.size w wr)) (fun _ i _ => n - (intOf i).toNat)
  case atStart => exact ⟨0, by omega, rfl, rfl, Lib.hid (Below.refl _ _)⟩
  case round =>
    obtain ⟨k, hk, rfl, rfl, HB⟩ := hrel
    by_cases hlt : k < n
    · obtain ⟨g, o, rfl, hc⟩ := (HR.out.below HB.out) (by omega)
      obtain ⟨Ai, Di, ci, di, c0, c1, c2, _, hp, hd⟩ := hc k hlt
      have hg := cell_lt c0
      have HT := Lib.hid (totR_of (okAll_iff.1 HO.out k hlt))
      have b0 := (sumT_bd HO.out k (by omega)).1
      have b1 := (sumT_bd HO.out k (by omega)).2
      have b2 := (rOk_iff.1 (okAll_iff.1 HO.out k hlt)).t0.2
      have b3 := (rOk_iff.1 (okAll_iff.1 HO.out k hlt)).t1
      have b4 : sumT R k ≤ 6000000000 := by omega
      obtain ⟨s1, s2⟩ := HS.out k hlt
      clear hc b1
      go_wp2_with fail
      refine (tot_impl (R k) _ _ _ _ _ s1 s2 (hp.out.alloc _) (hd.out.alloc _)).mono ?_
      rintro e w1 ⟨rfl, hb1⟩
      rw [HT.out]
      have HB1 := Lib.hid ((HB.out.alloc HB.out.size _).trans (hb1.mono (by have := HB.out.size; simp; omega)))
      clear hb1
      go_wp2
      go_roundw
      case rel => exact ⟨k + 1, by omega, by go_num, by rw [sumT], HB1⟩
      case measure => simp [intOf]; omega
    · obtain rfl : k = n := by omega
      go_wp2
      go_ret
      exact ⟨rfl, HB.out⟩
def SomeNat (n : Nat) (w : World) (e : Ending) (w' : World) : Prop := ∃ k : Nat, k < n ∧ e = .returned (.int .i64 (k : Int)) ∧ Below w.heap.size w w'
set_option maxHeartbeats 1000000 in
theorem index_all (A : Option Addr) (n c : Nat) (R : Nat → Rc) (w : World) (hn : n ≤ 6) (hs : Small n R) (hr : Rvr w A n R) (ho : okAll R n = true) :
    Calls Try.prog 114 #[.slice A n c, .func (Fn.func 74) #[] #[]] w fun e w' => e = .returned (.int .i64 (-1)) ∧ Below w.heap.size w w' := by
  have HR := Lib.hid hr
  have HO := Lib.hid ho
  have HS := Lib.hid hs
  clear hr ho hs
  go_enter Try.func114, Try.ntmps114
  go_wp2
  go_loopw [8] (fun i wr => ∃ k : Nat, k ≤ n ∧ i = .int .i64 k ∧ Hid (Below w.heap.size w wr)) (fun i _ => n - (intOf i).toNat)
  case atStart => exact ⟨0, by omega, rfl, Lib.hid (Below.refl _ _)⟩
  case round =>
    obtain ⟨k, hk, rfl, HB⟩ := hrel
    by_cases hlt : k < n
    · obtain ⟨g, o, rfl, hc⟩ := (HR.out.below HB.out) (by omega)
      obtain ⟨Ai, Di, ci, di, c0, c1, c2, _, hp, hd⟩ := hc k hlt
      obtain ⟨s1, s2⟩ := HS.out k hlt
      have HK := Lib.hid (okAll_iff.1 HO.out k hlt)
      clear hc
      go_wp2_with fail
      refine (isbad (R k) _ _ _ _ _ s1 s2 hp.out hd.out true HK.out).mono ?_
      rintro e w1 ⟨rfl, hb1⟩
      have HB1 := Lib.hid (HB.out.trans (hb1.mono HB.out.size))
      clear hb1
      go_wp2
      go_roundw
      case rel => exact ⟨k + 1, by omega, by go_num, HB1⟩
      case measure => simp [intOf]; omega
    · go_wp2
      go_ret
      exact ⟨rfl, HB.out⟩
set_option maxHeartbeats 1000000 in
theorem index_some (A : Option Addr) (n c : Nat) (R : Nat → Rc) (w : World) (hn : n ≤ 6) (hs : Small n R) (hr : Rvr w A n R) (ho : okAll R n = false) :
    Calls Try.prog 114 #[.slice A n c, .func (Fn.func 74) #[] #[]] w (SomeNat n w) := by
  have HR := Lib.hid hr
  have HO := Lib.hid ho
  have HS := Lib.hid hs
  clear hr ho hs
  go_enter Try.func114, Try.ntmps114
  go_wp2
  go_loopw [8] (fun i wr => ∃ k : Nat, k ≤ n ∧ i = .int .i64 k ∧ Hid (okAll R k = true) ∧ Hid (Below w.heap.size w wr)) (fun i _ => n - (intOf i).toNat)
  case atStart => exact ⟨0, by omega, rfl, Lib.hid (show okAll R 0 = true from rfl), Lib.hid (Below.refl _ _)⟩
  case round =>
    obtain ⟨k, hk, rfl, HA, HB⟩ := hrel
    by_cases hlt : k < n
    · obtain ⟨g, o, rfl, hc⟩ := (HR.out.below HB.out) (by omega)
      obtain ⟨Ai, Di, ci, di, c0, c1, c2, _, hp, hd⟩ := hc k hlt
      obtain ⟨s1, s2⟩ := HS.out k hlt
      clear hc
      cases hkk : rOk (R k) with
      | true =>
        have HK := Lib.hid hkk
        clear hkk
        go_wp2_with fail
        refine (isbad (R k) _ _ _ _ _ s1 s2 hp.out hd.out true HK.out).mono ?_
        rintro e w1 ⟨rfl, hb1⟩
        have HB1 := Lib.hid (HB.out.trans (hb1.mono HB.out.size))
        clear hb1
        go_wp2
        go_roundw
        case rel => exact ⟨k + 1, by omega, by go_num, Lib.hid (show okAll R (k + 1) = true by rw [okAll, HA.out, HK.out]; rfl), HB1⟩
        case measure => simp [intOf]; omega
      | false =>
        have HK := Lib.hid hkk
        clear hkk
        go_wp2_with fail
        refine (isbad (R k) _ _ _ _ _ s1 s2 hp.out hd.out false HK.out).mono ?_
        rintro e w1 ⟨rfl, hb1⟩
        have HB1 := Lib.hid (HB.out.trans (hb1.mono HB.out.size))
        clear hb1
        go_wp2
        go_ret
        exact ⟨k, hlt, rfl, HB1.out⟩
    · obtain rfl : k = n := by omega
      exact absurd (HA.out.symm.trans HO.out) (by decide)
theorem has_bad (A : Option Addr) (n c : Nat) (R : Nat → Rc) (w : World) (hn : n ≤ 6) (hs : Small n R) (hr : Rvr w A n R) (b : Bool) (ho : okAll R n = b) :
    Calls Try.prog 75 #[.slice A n c, .func (Fn.func 74) #[] #[]] w fun e w' => e = .returned (.bool (!b)) ∧ Below w.heap.size w w' := by
  have HR := Lib.hid hr
  have HO := Lib.hid ho
  have HS := Lib.hid hs
  clear hr ho hs
  cases b with
  | true =>
    go_enter Try.func75, Try.ntmps75
    go_wp2_with fail
    refine (index_all _ _ _ R _ hn HS.out HR.out HO.out).mono ?_
    rintro e w1 ⟨rfl, hb1⟩
    have HB1 := Lib.hid hb1
    clear hb1
    go_wp2
    go_ret
    exact ⟨rfl, HB1.out⟩
  | false =>
    go_enter Try.func75, Try.ntmps75
    go_wp2_with fail
    refine (index_some _ _ _ R _ hn HS.out HR.out HO.out).mono ?_
    rintro e w1 ⟨k, hk, rfl, hb1⟩
    have HB1 := Lib.hid hb1
    have k0 : (0 : Int) ≤ (k : Int) := by omega
    clear hb1
    go_wp2
    go_ret
    exact ⟨rfl, HB1.out⟩
theorem riv_impl (A : Option Addr) (n c : Nat) (R : Nat → Rc) (w : World) (hn : n ≤ 1048576) (hs : Small n R) (hr : Rvr w A n R) :
    Calls Try.prog 29 #[.slice A n c] w fun e w' => e = .returned (.bool (riverB n R)) ∧ Below w.heap.size w w' := by
  have HR := Lib.hid hr
  have HS := Lib.hid hs
  clear hr hs
  by_cases h1 : n < 1
  · have H := Lib.hid (riv_len (R := R) (n := n) (inB_no (by omega)))
    go_enter Try.func29, Try.ntmps29
    go_wp2
    go_ret
    exact ⟨ret_bool H.out.symm, Below.refl _ _⟩
  by_cases h6 : 6 < n
  · have H := Lib.hid (riv_len (R := R) (n := n) (inB_no (by omega)))
    go_enter Try.func29, Try.ntmps29
    go_wp2
    go_ret
    exact ⟨ret_bool H.out.symm, Below.refl _ _⟩
  have b1 : 1 ≤ n := by omega
  have b6 : n ≤ 6 := by omega
  clear h1 h6
  go_enter Try.func29, Try.ntmps29
  cases ho : okAll R n with
  | false =>
    have H := Lib.hid (riv_bad ho)
    have HO := Lib.hid ho
    clear ho
    go_wp2_with fail
    refine (has_bad _ _ _ R _ b6 HS.out HR.out false HO.out).mono ?_
    rintro e w1 ⟨rfl, hb1⟩
    have HB1 := Lib.hid hb1
    clear hb1
    go_wp2
    go_ret
    exact ⟨ret_bool H.out.symm, HB1.out⟩
  | true =>
    have H := Lib.hid (riv_ok (inB_yes (x := (n : Int)) (l := 1) (h := 6) (by omega) (by omega)) ho)
    have HO := Lib.hid ho
    clear ho
    go_wp2_with fail
    refine (has_bad _ _ _ R _ b6 HS.out HR.out true HO.out).mono ?_
    rintro e w1 ⟨rfl, hb1⟩
    have HB1 := Lib.hid hb1
    have HR1 := Lib.hid (HR.out.below hb1)
    clear hb1
    go_wp2_with fail
    refine (sums_impl _ _ _ R _ b6 HS.out HO.out HR1.out).mono ?_
    rintro e w2 ⟨rfl, hb2⟩
    have HB2 := Lib.hid (HB1.out.trans (hb2.mono HB1.out.size))
    clear hb2
    go_wp2
    go_ret
    exact ⟨ret_bool H.out.symm, HB2.out⟩
theorem rivt_impl (A : Option Addr) (n c : Nat) (R : Nat → Rc) (w : World) (hn : n ≤ 1048576) (hs : Small n R) (hr : Rvr w A n R) :
    Calls Try.prog 28 #[.slice A n c] w fun e w' => e = .returned (.int .i64 (rivT n R)) ∧ Below w.heap.size w w' := by
  have HR := Lib.hid hr
  have HS := Lib.hid hs
  clear hr hs
  go_enter Try.func28, Try.ntmps28
  go_wp2_with fail
  refine (riv_impl _ _ _ R _ hn HS.out HR.out).mono ?_
  rintro e w1 ⟨rfl, hb1⟩
  have HB1 := Lib.hid hb1
  have HR1 := Lib.hid (HR.out.below hb1)
  clear hb1
  cases h : riverB n R with
  | false =>
    have H := Lib.hid (show rivT n R = 0 by unfold rivT; rw [h]; rfl)
    clear h
    go_wp2
    go_ret
    exact ⟨ret_int H.out.symm, HB1.out⟩
  | true =>
    have H := Lib.hid (show rivT n R = sumT R n by unfold rivT; rw [if_pos h])
    obtain ⟨_, b6, ho, _⟩ := riv_parts h
    have HO := Lib.hid ho
    clear h ho
    go_wp2_with fail
    refine (sums_impl _ _ _ R _ b6 HS.out HO.out HR1.out).mono ?_
    rintro e w2 ⟨rfl, hb2⟩
    have HB2 := Lib.hid (HB1.out.trans (hb2.mono HB1.out.size))
    clear hb2
    go_wp2
    go_ret
    exact ⟨ret_int H.out.symm, HB2.out⟩
end Go.Proofs.Ytolifdpbkdeeeaa.C1
