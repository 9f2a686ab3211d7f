/- The time of a mover: of the model. -/
import Derived.Test.YtmabaibpdjmckaaGreatSa4
namespace Go.Proofs.YtmabaibpdjmckaaGreat.C1
open Go.ChangeShapes Go.WideShapes Go.ChangeAt Go.RowKit
set_option linter.unusedVariables false
set_option linter.unusedSimpArgs false

theorem timS_cases (C : Mv) (Y : Wy) (r : Rc) : (mvB C Y = false ∧ timZ C Y r = -1) ∨ (mvB C Y = true ∧ rOk r = false ∧ timZ C Y r = -1) ∨ (mvB C Y = true ∧ rOk r = true ∧ timZ C Y r = if lefZ C Y = 0 then 0 else if pacZ C.T (depZ Y r) = 0 then -1 else (lefZ C Y + pacZ C.T (depZ Y r) - 1) / pacZ C.T (depZ Y r)) := by
  cases h : mvB C Y with
  | false => exact Or.inl ⟨rfl, tim_no (by unfold mayS; rw [h]; rfl)⟩
  | true =>
    cases h2 : rOk r with
    | false => exact Or.inr (Or.inl ⟨rfl, rfl, tim_no (by unfold mayS; rw [h2, Bool.and_false])⟩)
    | true => exact Or.inr (Or.inr ⟨rfl, rfl, by unfold timZ; rw [show mayS C Y r = true from by unfold mayS; rw [h, h2]; rfl, if_pos rfl]⟩)
end Go.Proofs.YtmabaibpdjmckaaGreat.C1
