/- A slice of integers at the head of its block; what a valid entry's numbers are. -/
import Derived.Test.YtclofbknbfmmlaaDoorEnO
namespace Go.Proofs.YtclofbknbfmmlaaDoor.C1
open Go.ChangeShapes Go.WideShapes Go.ChangeAt Go.RowKit
set_option linter.unusedVariables false


/-- A slice of integers that starts at the head of its block. -/
def SrcH (w : World) (A : Option Addr) (n : Nat) (W : Nat → Int) : Prop := 0 < n → ∃ g, A = some ⟨g, 0, none⟩ ∧ ∀ i, i < n → w.cell? ⟨g, i, none⟩ = some (.int .i64 (W i))
theorem SrcH.below {w w' : World} {A : Option Addr} {n : Nat} {W : Nat → Int} (h : SrcH w A n W) (hb : Below w.heap.size w w') : SrcH w' A n W := fun hn => by
  obtain ⟨g, e, hc⟩ := h hn
  exact ⟨g, e, fun i hi => (hb.cell (World.block_lt_of_cell? _ _ (hc i hi))).trans (hc i hi)⟩
theorem enOk_in' {e : En} (h : enOk e = true) : e.f ≠ e.t ∧ (0 ≤ e.f ∧ e.f ≤ 11) ∧ (0 ≤ e.t ∧ e.t ≤ 11) ∧ (1 ≤ e.a ∧ e.a ≤ 1000000000) ∧ (0 ≤ e.m ∧ e.m ≤ 1000000) ∧ (0 ≤ e.y ∧ e.y ≤ 9999) := by
  unfold enOk at h
  simp only [Bool.and_eq_true, inB_iff] at h
  obtain ⟨h1, h2, h3, h4, h5, h6⟩ := h
  exact ⟨by simpa using h1, h2, h3, h4, h5, h6⟩
end Go.Proofs.YtclofbknbfmmlaaDoor.C1
