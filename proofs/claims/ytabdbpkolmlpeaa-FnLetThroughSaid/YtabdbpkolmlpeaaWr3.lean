/- Levels and rules, of the program and of its model. -/
import Derived.Test.YtabdbpkolmlpeaaWr2
namespace Go.Proofs.Ytabdbpkolmlpeaa.C1
open Go.ChangeShapes Go.WideShapes Go.ChangeAt Go.RowKit
set_option linter.unusedVariables false

/-- Block b is just five cells. -/
def Box5 (w : World) (b : Nat) (x y z u v : Value) (t : TypeId) : Prop := w.heap[b]? = some (.cells #[x, y, z, u, v] t (0, 0))
section
variable {w w' : World} {b : Nat} {x y z u v : Value} {t : TypeId}
theorem Box5.lt (h : Box5 w b x y z u v t) : b < w.heap.size := (Array.getElem?_eq_some_iff.1 h).1
theorem Box5.new (w : World) (x y z u v : Value) (t : TypeId) : Box5 (w.alloc (.cells #[x, y, z, u, v] t)) w.heap.size x y z u v t := heap_alloc_new w _
theorem Box5.alloc (h : Box5 w b x y z u v t) (o : Obj) : Box5 (w.alloc o) b x y z u v t := (Below.heap_alloc w o b h.lt).trans h
theorem Box5.below (h : Box5 w b x y z u v t) (hb : Below w.heap.size w w') : Box5 w' b x y z u v t := (hb.block b h.lt).trans h
theorem Box5.touch {B L : Nat} (h : Box5 w b x y z u v t) (hb : Touch w w' B L) (ho : b < B ∨ L ≤ b) : Box5 w' b x y z u v t := (hb.block b h.lt ho).trans h
theorem Box5.at (h : Box5 w b x y z u v t) : w.cell? ⟨b, 0, none⟩ = some x ∧ w.cell? ⟨b, 1, none⟩ = some y ∧ w.cell? ⟨b, 2, none⟩ = some z ∧ w.cell? ⟨b, 3, none⟩ = some u ∧ w.cell? ⟨b, 4, none⟩ = some v := by
  unfold Box5 at h
  unfold World.cell?
  simp [h]
theorem Box5.free (h : Box5 w b x y z u v t) : w.frozen? ⟨b, 0, none⟩ = false ∧ w.frozen? ⟨b, 1, none⟩ = false ∧ w.frozen? ⟨b, 2, none⟩ = false ∧ w.frozen? ⟨b, 3, none⟩ = false ∧ w.frozen? ⟨b, 4, none⟩ = false := by
  unfold Box5 at h
  unfold World.frozen?
  simp [h]
theorem Box5.set1 (h : Box5 w b x y z u v t) (s : Value) : Box5 (w.setCell ⟨b, 1, none⟩ s) b x s z u v t := by
  unfold Box5 at *
  simp [World.setCell, Array.getElem?_modify, h]
theorem Box5.far {g j : Nat} (h : Box5 w b x y z u v t) (s : Value) (hne : b ≠ g) : Box5 (w.setCell ⟨g, j, none⟩ s) b x y z u v t := (Below.heap_setCell w ⟨g, j, none⟩ s b hne).trans h
end
theorem lev_impl (s : Int) (w : World) :
    Calls Try.prog 45 #[.int .i64 s] w fun e w' => e = .returned (.bool (inB s 0 100000)) ∧ w = w' := by
  by_cases h1 : 0 ≤ s
  · by_cases h2 : s ≤ 100000
    · go_enter Try.func45, Try.ntmps45
      go_wp2
      go_ret
      exact ⟨ret_bool (inB_yes h1 (by omega)).symm, rfl⟩
    · have h2' : 100000 < s := by omega
      go_enter Try.func45, Try.ntmps45
      go_wp2
      go_ret
      exact ⟨ret_bool (inB_no (Or.inr (by omega))).symm, rfl⟩
  · have h1' : s < 0 := by omega
    go_enter Try.func45, Try.ntmps45
    go_wp2
    go_ret
    exact ⟨ret_bool (inB_no (Or.inl h1')).symm, rfl⟩
theorem lev_spec (s : Int) (w : World) :
    Calls Try.prog 102 #[.int .i64 s] w fun e w' => e = .returned (.bool (inB s 0 100000)) ∧ w = w' := by
  go_enter Try.func102, Try.ntmps102
  go_wp2_with (go_at_call 81; refine (in_spec _ _ _ _).mono ?_; rintro e w' ⟨rfl, rfl⟩)
  go_ret
  exact ⟨rfl, rfl⟩
/-- What a function that gives a rule leaves. -/
def GivesU (w : World) (U : Ru) (e : Ending) (w' : World) : Prop := e = .returned (.agg #[.int .i64 U.l, .int .i64 U.h, .int .i64 U.f]) ∧ Below w.heap.size w w'
theorem uOk_cases (U : Ru) : (uOk U = false ∧ inB U.l 0 100000 = false) ∨ (uOk U = false ∧ inB U.l 0 100000 = true ∧ inB U.h 0 100000 = false) ∨ (uOk U = false ∧ inB U.l 0 100000 = true ∧ inB U.h 0 100000 = true ∧ inB U.f 0 100000 = false) ∨
    (inB U.l 0 100000 = true ∧ inB U.h 0 100000 = true ∧ inB U.f 0 100000 = true ∧ uOk U = (decide (U.l < U.h) && decide (U.h ≤ U.f))) := by
  unfold uOk
  cases inB U.l 0 100000 <;> cases inB U.h 0 100000 <;> cases inB U.f 0 100000 <;> simp
end Go.Proofs.Ytabdbpkolmlpeaa.C1
