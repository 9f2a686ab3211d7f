/- The measures of a train: of the model. -/
import Derived.Test.YtmabaibpdjmckaaGreatTrnT
namespace Go.Proofs.YtmabaibpdjmckaaGreat.C1
open Go.ChangeShapes Go.WideShapes Go.ChangeAt Go.RowKit
set_option linter.unusedVariables false

/-- A train's two cells. -/
def TBox (w : World) (g : Nat) (up : Bool) (A : Option Addr) (n c : Nat) : Prop := w.cell? ⟨g, 0, none⟩ = some (.bool up) ∧ w.cell? ⟨g, 1, none⟩ = some (.slice A n c)
theorem TBox.below {w w' : World} {g : Nat} {up : Bool} {A : Option Addr} {n c : Nat} (h : TBox w g up A n c) (hb : Below w.heap.size w w') : TBox w' g up A n c := ⟨(hb.cell (cell_lt' h.1)).trans h.1, (hb.cell (cell_lt' h.2)).trans h.2⟩
theorem TBox.new (w : World) (up : Bool) (A : Option Addr) (n c : Nat) (t : TypeId) : TBox (w.alloc (.cells #[.bool up, .slice A n c] t)) w.heap.size up A n c := ⟨by simp, by simp⟩
theorem TBox.drewN {w : World} {g : Nat} {up : Bool} {A : Option Addr} {n c : Nat} (h : TBox w g up A n c) (k : Nat) : TBox (w.drewN k) g up A n c := h
theorem tOk_nil {T : List (List Bt)} (h : T.length = 0) : tOk T = false := by
  obtain rfl := List.eq_nil_of_length_eq_zero h
  rfl
theorem tOk_none {T : List (List Bt)} (h : (bts T).length = 0) : tOk T = false := tOk_len (by rw [h]; rfl)
theorem in_tOk {T : List (List Bt)} (h : tOk T = true) : TIn T := tOk_iff.1 h
end Go.Proofs.YtmabaibpdjmckaaGreat.C1
