/- MoveGate, of the program and of its model. -/
import Derived.Test.YtabdbpkolmlpeaaWr3
namespace Go.Proofs.Ytabdbpkolmlpeaa.C1
open Go.ChangeShapes Go.WideShapes Go.ChangeAt Go.RowKit
set_option linter.unusedVariables false

theorem move_cases (W : Wr) (n : Int) : (wOk W = false ∧ moveW W n = W) ∨ (wOk W = true ∧ inB n 0 (10 * W.g) = false ∧ moveW W n = W) ∨ (wOk W = true ∧ inB n 0 (10 * W.g) = true ∧ moveW W n = { W with o := moveO W n }) := by
  cases h : wOk W with
  | false => exact .inl ⟨rfl, moveW_no (by unfold moveB; rw [h]; rfl)⟩
  | true =>
    cases h1 : inB n 0 (10 * W.g) with
    | false => exact .inr (.inl ⟨rfl, rfl, moveW_no (by unfold moveB; rw [h, h1]; rfl)⟩)
    | true => exact .inr (.inr ⟨rfl, rfl, moveW_yes (by unfold moveB; rw [h, h1]; rfl)⟩)
end Go.Proofs.Ytabdbpkolmlpeaa.C1
