/- Weirs of the program: whether they are valid; levels. -/
import Derived.Test.YtabdbpkolmlpeaaWr
namespace Go.Proofs.Ytabdbpkolmlpeaa.C1
open Go.ChangeShapes Go.WideShapes Go.ChangeAt Go.RowKit
set_option linter.unusedVariables false

theorem wok_flag {W C : Wr} (h : C = cW W) : (decide (W.g = C.g) && (decide (W.o = C.o) && (decide (W.s = C.s) && (decide (W.k = C.k) && decide (W.w = C.w))))) = wOk W := by
  subst h
  cases hw : wOk W with
  | false => exact cW_ne hw
  | true => rw [cW_id hw]; simp
theorem first_diff {P Q : Wr} (h : P ≠ Q) : P.g ≠ Q.g ∨ (P.g = Q.g ∧ P.o ≠ Q.o) ∨ (P.g = Q.g ∧ P.o = Q.o ∧ P.s ≠ Q.s) ∨ (P.g = Q.g ∧ P.o = Q.o ∧ P.s = Q.s ∧ P.k ≠ Q.k) ∨ (P.g = Q.g ∧ P.o = Q.o ∧ P.s = Q.s ∧ P.k = Q.k ∧ P.w ≠ Q.w) := by
  obtain ⟨a, b, c, d, e⟩ := P
  obtain ⟨a', b', c', d', e'⟩ := Q
  simp at h ⊢
  omega
set_option maxHeartbeats 1000000 in
theorem wok_impl (W : Wr) (w : World) : Calls Try.prog 44 #[.agg #[.int .i64 W.g, .int .i64 W.o, .int .i64 W.s, .int .i64 W.k, .int .i64 W.w]] w fun e w' => e = .returned (.bool (wOk W)) ∧ Below w.heap.size w w' := by
  obtain ⟨C, hC⟩ : ∃ C, C = cW W := ⟨_, rfl⟩
  cases hw : wOk W with
  | true =>
    have hid := cW_id hw
    go_enter Try.func44, Try.ntmps44
    go_wp2
    clear hw hC C
    have HI := Lib.hid hid
    clear hid
    go_region_with (go_at_call 88; refine (bounded_impl W _).mono ?_; rintro e w1 ⟨rfl, hb1⟩; rw [HI.out]; obtain ⟨k1, f1⟩ := bcell hb1; have q1 := hb1.size; (try simp at q1); have HB1 := Lib.hid hb1; clear hb1)
    all_goals
      go_wp2
      go_ret
      exact ⟨rfl, by (repeat' (first | (with_reducible exact Below.refl _ _) | (with_reducible refine Below.drew ?_) | (with_reducible refine Below.alloc ?_ ?_ _) | (with_reducible refine Below.setCell ?_ ?_ _) | (with_reducible refine Below.trans ?_ (HB1.out.mono ?_)) | (first | omega | (simp; omega) | (simp; done))))⟩
  | false =>
    have hne : W ≠ C := fun h => by
      have := wok_flag hC
      rw [hw] at this
      subst h
      simp at this
    have HC := Lib.hid hC
    have hd := first_diff hne
    clear hne hC hw
    obtain ⟨g, o, s, k, x⟩ := W
    obtain ⟨g1, o1, s1, k1, x1⟩ := C
    dsimp only at hd
    rcases hd with h | ⟨e1, h⟩ | ⟨e1, e2, h⟩ | ⟨e1, e2, e3, h⟩ | ⟨e1, e2, e3, e4, h⟩
    all_goals
      try subst e1
      try subst e2
      try subst e3
      try subst e4
      go_enter Try.func44, Try.ntmps44
      go_wp2
      go_region_with (go_at_call 88; refine (bounded_impl ⟨_, _, _, _, _⟩ _).mono ?_; rintro e w1 ⟨rfl, hb1⟩; rw [← HC.out]; obtain ⟨k1, f1⟩ := bcell hb1; have q1 := hb1.size; (try simp at q1); have HB1 := Lib.hid hb1; clear hb1)
      all_goals
        go_wp2
        go_ret
        exact ⟨rfl, by (repeat' (first | (with_reducible exact Below.refl _ _) | (with_reducible refine Below.drew ?_) | (with_reducible refine Below.alloc ?_ ?_ _) | (with_reducible refine Below.setCell ?_ ?_ _) | (with_reducible refine Below.trans ?_ (HB1.out.mono ?_)) | (first | omega | (simp; omega) | (simp; done))))⟩
end Go.Proofs.Ytabdbpkolmlpeaa.C1
