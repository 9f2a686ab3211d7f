/- The error of a refused entry, as the row's list lays it. -/
import Derived.Test.YtclofbknbfmmlaaDoorErI
import Derived.Test.YtclofbknbfmmlaaDoorCards
import Derived.Test.YtclofbknbfmmlaaDoorLaid
import Derived.Stop.LaidErr
namespace Go.Proofs.YtclofbknbfmmlaaDoor.Lift
open Go.ChangeShapes Go.WideShapes Go.ChangeAt Go.RowKit Go.WideElems Go.Stop Go.Extern.Stop
set_option linter.unusedVariables false

/-- The variable holds a pointer to an error's text. -/
def ErrR (w : World) : Prop := ∃ a : Addr, w.cell? ⟨0, 0, none⟩ = some (.iface 203 (.pointer (some a)))
theorem ErrR.below {w w' : World} (h : ErrR w) (hb : Below w.heap.size w w') : ErrR w' := by
  obtain ⟨a, h⟩ := h
  exact ⟨a, (hb.cell (World.block_lt_of_cell? _ _ h)).trans h⟩
theorem er_star : ("*" ++ "errors.errorString" : String) = "*errors.errorString" := by decide
theorem er_row (u : TypeId) (h : Tryd.prog.typeName? 3 u = some "*errors.errorString") : u = 203 :=
  typeName_ptr_named (nm := "errors.errorString") (by rw [er_star]; kernel_rfl) (by kernel_rfl) (by decide) u (by rw [er_star]; exact h)
theorem errR {r : List (String × DataW Unit)} {W : World} (hl : laidMet Tryd.prog (("loop.example/g03317/impl.errRefused", (Rows.laid_loop_example_g03317_impl_errRefused : DataW Unit)) :: r) W) (hm : ("loop.example/g03317/impl.errRefused", (Rows.laid_loop_example_g03317_impl_errRefused : DataW Unit)) ∈ (("loop.example/g03317/impl.errRefused", (Rows.laid_loop_example_g03317_impl_errRefused : DataW Unit)) :: r)) : ErrR W := by
  have hg : Tryd.prog.globalNamed "loop.example/g03317/impl.errRefused" = some 0 := by kernel_rfl
  obtain ⟨a0, s0, hv0, _, _, _⟩ := laid_sentinel hl hg (by kernel_rfl : (Tryd.prog.globals[0]?).map (·.type) = some 75) Tryd.underlying75 er_row Tryd.underlying203 Tryd.underlying225 rfl rfl Tryd.underlying9 (by kernel_rfl) (by kernel_rfl)
  exact ⟨a0, by simpa using World.var?_cell hg hv0 0⟩
end Go.Proofs.YtclofbknbfmmlaaDoor.Lift
