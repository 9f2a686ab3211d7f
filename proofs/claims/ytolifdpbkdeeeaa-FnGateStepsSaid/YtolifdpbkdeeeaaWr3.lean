/- Levels and rules, of the program and of its model. -/
import Derived.Test.YtolifdpbkdeeeaaWr2
namespace Go.Proofs.Ytolifdpbkdeeeaa.C1
open Go.ChangeShapes Go.WideShapes Go.ChangeAt Go.RowKit
set_option linter.unusedVariables false

/-- Block b is just five cells. -/
def Box5 (w : World) (b : Nat) (x y z u v : Value) (t : TypeId) : Prop := w.heap[b]? = some (.cells #[x, y, z, u, v] t (0, 0))
section
variable {w w' : World} {b : Nat} {x y z u v : Value} {t : TypeId}
theorem Box5.lt (h : Box5 w b x y z u v t) : b < w.heap.size := (Array.getElem?_eq_some_iff.1 h).1
theorem Box5.new (w : World) (x y z u v : Value) (t : TypeId) : Box5 (w.alloc (.cells #[x, y, z, u, v] t)) w.heap.size x y z u v t := heap_alloc_new w _
theorem Box5.alloc (h : Box5 w b x y z u v t) (o : Obj) : Box5 (w.alloc o) b x y z u v t := (Below.heap_alloc w o b h.lt).trans h
theorem Box5.below (h : Box5 w b x y z u v t) (hb : Below w.heap.size w w') : Box5 w' b x y z u v t := (hb.block b h.lt).trans h
theorem Box5.touch {B L : Nat} (h : Box5 w b x y z u v t) (hb : Touch w w' B L) (ho : b < B ∨ L ≤ b) : Box5 w' b x y z u v t := (hb.block b h.lt ho).trans h
theorem Box5.at (h : Box5 w b x y z u v t) : w.cell? ⟨b, 0, none⟩ = some x ∧ w.cell? ⟨b, 1, none⟩ = some y ∧ w.cell? ⟨b, 2, none⟩ = some z ∧ w.cell? ⟨b, 3, none⟩ = some u ∧ w.cell? ⟨b, 4, none⟩ = some v := by
  unfold Box5 at h
  unfold World.cell?
  simp [h]
theorem Box5.free (h : Box5 w b x y z u v t) : w.frozen? ⟨b, 0, none⟩ = false ∧ w.frozen? ⟨b, 1, none⟩ = false ∧ w.frozen? ⟨b, 2, none⟩ = false ∧ w.frozen? ⟨b, 3, none⟩ = false ∧ w.frozen? ⟨b, 4, none⟩ = false := by
  unfold Box5 at h
  unfold World.frozen?
  simp [h]
theorem Box5.set1 (h : Box5 w b x y z u v t) (s : Value) : Box5 (w.setCell ⟨b, 1, none⟩ s) b x s z u v t := by
  unfold Box5 at *
  simp [World.setCell, Array.getElem?_modify, h]
theorem Box5.far {g j : Nat} (h : Box5 w b x y z u v t) (s : Value) (hne : b ≠ g) : Box5 (w.setCell ⟨g, j, none⟩ s) b x y z u v t := (Below.heap_setCell w ⟨g, j, none⟩ s b hne).trans h
end
theorem lev_impl (s : Int) (w : World) :
    Calls Try.prog 82 #[.int .i64 s] w fun e w' => e = .returned (.bool (inB s 0 100000)) ∧ w = w' := by
  by_cases h1 : 0 ≤ s
  · by_cases h2 : s ≤ 100000
    · go_enter Try.func82, Try.ntmps82
      go_wp2
      go_ret
      exact ⟨ret_bool (inB_yes h1 (by omega)).symm, rfl⟩
    · have h2' : 100000 < s := by omega
      go_enter Try.func82, Try.ntmps82
      go_wp2
      go_ret
      exact ⟨ret_bool (inB_no (Or.inr (by omega))).symm, rfl⟩
  · have h1' : s < 0 := by omega
    go_enter Try.func82, Try.ntmps82
    go_wp2
    go_ret
    exact ⟨ret_bool (inB_no (Or.inl h1')).symm, rfl⟩
theorem lev_spec (s : Int) (w : World) :
    Calls Try.prog 107 #[.int .i64 s] w fun e w' => e = .returned (.bool (inB s 0 100000)) ∧ w = w' := by
  go_enter Try.func107, Try.ntmps107
  go_wp2_with (go_at_call 106; refine (in_spec _ _ _ _).mono ?_; rintro e w' ⟨rfl, rfl⟩)
  go_ret
  exact ⟨rfl, rfl⟩
/-- What a function that gives a rule leaves. -/
def GivesU (w : World) (U : Ru) (e : Ending) (w' : World) : Prop := e = .returned (.agg #[.int .i64 U.l, .int .i64 U.h, .int .i64 U.f]) ∧ Below w.heap.size w w'
theorem toRule (U : Ru) (w : World) : Calls Try.prog 58 #[.agg #[.int .i64 U.l, .int .i64 U.h, .int .i64 U.f]] w (GivesU w U) := by
  go_enter Try.func58, Try.ntmps58
  go_wp2
  refine bodyPost_ret (v := .agg #[.int .i64 U.l, .int .i64 U.h, .int .i64 U.f]) (by simp [results, Try.results58, go_sem]) rfl ?_
  exact ⟨rfl, by (repeat' (first | (with_reducible exact Below.refl _ _) | (with_reducible refine Below.drew ?_) | (with_reducible refine Below.alloc ?_ ?_ _) | (with_reducible refine Below.setCell ?_ ?_ _) | (first | omega | (simp; omega) | (simp; done))))⟩
theorem uOk_cases (U : Ru) : (uOk U = false ∧ inB U.l 0 100000 = false) ∨ (uOk U = false ∧ inB U.l 0 100000 = true ∧ inB U.h 0 100000 = false) ∨ (uOk U = false ∧ inB U.l 0 100000 = true ∧ inB U.h 0 100000 = true ∧ inB U.f 0 100000 = false) ∨
    (inB U.l 0 100000 = true ∧ inB U.h 0 100000 = true ∧ inB U.f 0 100000 = true ∧ uOk U = (decide (U.l < U.h) && decide (U.h ≤ U.f))) := by
  unfold uOk
  cases inB U.l 0 100000 <;> cases inB U.h 0 100000 <;> cases inB U.f 0 100000 <;> simp
set_option maxHeartbeats 1000000 in
theorem uok_spec (U : Ru) (w : World) : Calls Try.prog 57 #[.agg #[.int .i64 U.l, .int .i64 U.h, .int .i64 U.f]] w fun e w' => e = .returned (.bool (uOk U)) ∧ Below w.heap.size w w' := by
  have HB0 := Lib.hid ((Below.refl w.heap.size w).alloc (Nat.le_refl _) (.cells #[.int .i64 U.l, .int .i64 U.h, .int .i64 U.f] 55))
  rcases uOk_cases U with ⟨h, h1⟩ | ⟨h, h1, h2⟩ | ⟨h, h1, h2, h3⟩ | ⟨h1, h2, h3, h⟩
  rotate_right
  · by_cases a : U.l < U.h
    · have a' : decide (U.l < U.h) = true := decide_eq_true a
      by_cases b : U.h ≤ U.f
      · have b' : decide (U.h ≤ U.f) = true := decide_eq_true b
        rw [a', b'] at h
        have H := Lib.hid h
        clear h
        go_enter Try.func57, Try.ntmps57
        go_wp2_with (go_at_call 107; refine (lev_spec _ _).mono ?_; rintro e w' ⟨rfl, rfl⟩)
        go_ret
        exact ⟨ret_bool H.out.symm, HB0.out⟩
      · have b' : decide (U.h ≤ U.f) = false := decide_eq_false b
        rw [a', b'] at h
        have H := Lib.hid h
        clear h
        go_enter Try.func57, Try.ntmps57
        go_wp2_with (go_at_call 107; refine (lev_spec _ _).mono ?_; rintro e w' ⟨rfl, rfl⟩)
        go_ret
        exact ⟨ret_bool H.out.symm, HB0.out⟩
    · have a' : decide (U.l < U.h) = false := decide_eq_false a
      rw [a'] at h
      have H := Lib.hid h
      clear h
      go_enter Try.func57, Try.ntmps57
      go_wp2_with (go_at_call 107; refine (lev_spec _ _).mono ?_; rintro e w' ⟨rfl, rfl⟩)
      go_ret
      exact ⟨ret_bool H.out.symm, HB0.out⟩
  all_goals
    have H := Lib.hid h
    clear h
    go_enter Try.func57, Try.ntmps57
    go_wp2_with (go_at_call 107; refine (lev_spec _ _).mono ?_; rintro e w' ⟨rfl, rfl⟩)
    go_ret
    exact ⟨ret_bool H.out.symm, HB0.out⟩
theorem uOk_no {U : Ru} (h : U.l < 0 ∨ U.h ≤ U.l ∨ U.f < U.h ∨ 100000 < U.f) : uOk U = false := by
  rw [Bool.eq_false_iff]
  intro hh
  have := uOk_iff.1 hh
  omega
set_option maxHeartbeats 1000000 in
theorem uok_impl (U : Ru) (w : World) : Calls Try.prog 42 #[.agg #[.int .i64 U.l, .int .i64 U.h, .int .i64 U.f]] w fun e w' => e = .returned (.bool (uOk U)) ∧ Below w.heap.size w w' := by
  have HB0 := Lib.hid ((Below.refl w.heap.size w).alloc (Nat.le_refl _) (.cells #[.int .i64 U.l, .int .i64 U.h, .int .i64 U.f] 55))
  by_cases a : U.l < 0
  · have H := Lib.hid (uOk_no (Or.inl a))
    go_enter Try.func42, Try.ntmps42
    go_wp2
    go_ret
    exact ⟨ret_bool H.out.symm, HB0.out⟩
  by_cases b : U.h ≤ U.l
  · have a' : 0 ≤ U.l := by omega
    have H := Lib.hid (uOk_no (Or.inr (Or.inl b)))
    clear a
    go_enter Try.func42, Try.ntmps42
    go_wp2
    go_ret
    exact ⟨ret_bool H.out.symm, HB0.out⟩
  by_cases c : U.f < U.h
  · have a' : 0 ≤ U.l := by omega
    have b' : U.l < U.h := by omega
    have H := Lib.hid (uOk_no (Or.inr (Or.inr (Or.inl c))))
    clear a b
    go_enter Try.func42, Try.ntmps42
    go_wp2
    go_ret
    exact ⟨ret_bool H.out.symm, HB0.out⟩
  by_cases d : 100000 < U.f
  · have a' : 0 ≤ U.l := by omega
    have b' : U.l < U.h := by omega
    have c' : U.h ≤ U.f := by omega
    have H := Lib.hid (uOk_no (Or.inr (Or.inr (Or.inr d))))
    have d' : decide (U.f ≤ 100000) = false := decide_eq_false (by omega)
    clear a b c
    go_enter Try.func42, Try.ntmps42
    go_wp2
    go_ret
    exact ⟨ret_bool H.out.symm, HB0.out⟩
  · have a' : 0 ≤ U.l := by omega
    have b' : U.l < U.h := by omega
    have c' : U.h ≤ U.f := by omega
    have d' : U.f ≤ 100000 := by omega
    have H := Lib.hid (uOk_iff.2 ⟨a', b', c', d'⟩)
    clear a b c d
    go_enter Try.func42, Try.ntmps42
    go_wp2
    go_ret
    exact ⟨ret_bool H.out.symm, HB0.out⟩
end Go.Proofs.Ytolifdpbkdeeeaa.C1
