/- A law's argument that is a weir, or a rule, opened to its cells. -/
import Derived.Test.YtolifdpbkdeeeaaOpen
import Derived.Test.YtolifdpbkdeeeaaWeirM
import Derived.Lib.SmallJoins
namespace Go.Proofs.Ytolifdpbkdeeeaa.C1
open Go.ChangeShapes Go.WideShapes Go.ChangeAt Go.RowKit Go.Deep Go.Joins Go.Proofs.Ytolifdpbkdeeeaa.Opened
set_option linter.unusedVariables false

section
variable {H : Type} {enc : TypeId × Value → H} {w : World} {base : Nat} {spare : Nat → Bool} {held : Bool}
set_option maxRecDepth 100000 in
theorem open_ints {t : TypeId} {fs : Array Field} {r : Reach} {b0 : Nat} {v : Value} {d : DataW H} {ps : List MemPlace} (he : Try.prog.underlying t = some (.struct fs)) (hone : oneCellFields Try.prog fs = true) (hC : Try.prog.cellsOf t = fs.size) (hall : allOf 3 fs = true)
    (hv : Value.okWide Try.prog w r b0 t v) (h : DataW.Trod enc Try.prog w base spare held t v d ps) :
    ∃ cs : Array Value, v = .agg cs ∧ cs.size = fs.size ∧ ∃ f : Nat → Int, ∀ j, j < fs.size → cs[j]? = some (.int .i64 (f j)) := by
  obtain ⟨cs, rfl, hsz⟩ := okWide_struct he hv
  obtain ⟨fuel, hf⟩ := h
  obtain ⟨_, f, hf'⟩ := ints_of he hone hC Try.underlying3 hall hf
  refine ⟨cs, rfl, hsz.trans hC, f, fun j hj => ?_⟩
  have := (hf' j hj).1
  simpa [Value.cells] using this
set_option maxRecDepth 100000 in
theorem open_weir {r : Reach} {b0 : Nat} {v : Value} {d : DataW H} {ps : List MemPlace} (hv : Value.okWide Try.prog w r b0 69 v) (h : DataW.Trod enc Try.prog w base spare held 69 v d ps) :
    ∃ W : Wr, v = .agg #[.int .i64 W.g, .int .i64 W.o, .int .i64 W.s, .int .i64 W.k, .int .i64 W.w] := by
  obtain ⟨cs, rfl, hs, f, hf⟩ := open_ints Try.underlying69 (by kernel_rfl) (by kernel_rfl) (by kernel_rfl) hv h
  refine ⟨⟨f 0, f 1, f 2, f 3, f 4⟩, congrArg Value.agg ?_⟩
  have hs' : cs.size = 5 := hs
  have h0 := hf 0 (by decide); have h1 := hf 1 (by decide); have h2 := hf 2 (by decide); have h3 := hf 3 (by decide); have h4 := hf 4 (by decide)
  refine Array.ext (by simpa using hs') fun i hi hi' => ?_
  have hi5 : i < 5 := by omega
  rcases (by omega : i = 0 ∨ i = 1 ∨ i = 2 ∨ i = 3 ∨ i = 4) with rfl | rfl | rfl | rfl | rfl
  · rw [Array.getElem?_eq_getElem hi] at h0; exact Option.some.inj h0
  · rw [Array.getElem?_eq_getElem hi] at h1; exact Option.some.inj h1
  · rw [Array.getElem?_eq_getElem hi] at h2; exact Option.some.inj h2
  · rw [Array.getElem?_eq_getElem hi] at h3; exact Option.some.inj h3
  · rw [Array.getElem?_eq_getElem hi] at h4; exact Option.some.inj h4
set_option maxRecDepth 100000 in
theorem open_rule {r : Reach} {b0 : Nat} {v : Value} {d : DataW H} {ps : List MemPlace} (hv : Value.okWide Try.prog w r b0 76 v) (h : DataW.Trod enc Try.prog w base spare held 76 v d ps) :
    ∃ U : Ru, v = .agg #[.int .i64 U.l, .int .i64 U.h, .int .i64 U.f] := by
  obtain ⟨cs, rfl, hs, f, hf⟩ := open_ints Try.underlying76 (by kernel_rfl) (by kernel_rfl) (by kernel_rfl) hv h
  refine ⟨⟨f 0, f 1, f 2⟩, congrArg Value.agg ?_⟩
  have hs' : cs.size = 3 := hs
  have h0 := hf 0 (by decide); have h1 := hf 1 (by decide); have h2 := hf 2 (by decide)
  refine Array.ext (by simpa using hs') fun i hi hi' => ?_
  have hi5 : i < 3 := by omega
  rcases (by omega : i = 0 ∨ i = 1 ∨ i = 2) with rfl | rfl | rfl
  · rw [Array.getElem?_eq_getElem hi] at h0; exact Option.some.inj h0
  · rw [Array.getElem?_eq_getElem hi] at h1; exact Option.some.inj h1
  · rw [Array.getElem?_eq_getElem hi] at h2; exact Option.some.inj h2
end
end Go.Proofs.Ytolifdpbkdeeeaa.C1
