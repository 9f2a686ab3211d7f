/- One reach in a box. -/
import Derived.Test.YtlaffdfnmpkocaaPassM
namespace Go.Proofs.Ytlaffdfnmpkocaa.C1
open Go.ChangeShapes Go.WideShapes Go.ChangeAt Go.RowKit
set_option linter.unusedVariables false

/-- One reach in box p, its rows between B and L. -/
structure OneR (w : World) (p : Nat) (r : Rc) (A D : Option Addr) (c d B L g1 g2 : Nat) : Prop where
  x : Box w p (.slice A r.n c) (.int .i64 r.v) (.slice D r.m d) 29
  o : Owned w B L A D r g1 g2
/-- The same, its rows marked from K on. -/
structure OneK (w : World) (p : Nat) (r : Rc) (A D : Option Addr) (c d B L g1 g2 K : Nat) : Prop where
  x : Box w p (.slice A r.n c) (.int .i64 r.v) (.slice D r.m d) 29
  o : Owned w B L A D (markR r K) g1 g2
section
variable {w w' : World} {p c d B L g1 g2 K : Nat} {r : Rc} {A D : Option Addr}
theorem OneR.below (h : OneR w p r A D c d B L g1 g2) (hb : Below w.heap.size w w') : OneR w' p r A D c d B L g1 g2 := ⟨h.x.below hb, h.o.below hb⟩
theorem OneR.touch (h : OneR w p r A D c d B L g1 g2) {B' L' : Nat} (t : Touch w w' B' L') (hp : p < B' ∨ L' ≤ p) (hd : L ≤ B' ∨ L' ≤ B) : OneR w' p r A D c d B L g1 g2 := ⟨h.x.touch t hp, h.o.touch t hd⟩
theorem OneK.below (h : OneK w p r A D c d B L g1 g2 K) (hb : Below w.heap.size w w') : OneK w' p r A D c d B L g1 g2 K := ⟨h.x.below hb, h.o.below hb⟩
theorem OneK.touch (h : OneK w p r A D c d B L g1 g2 K) {B' L' : Nat} (t : Touch w w' B' L') (hp : p < B' ∨ L' ≤ p) (hd : L ≤ B' ∨ L' ≤ B) : OneK w' p r A D c d B L g1 g2 K := ⟨h.x.touch t hp, h.o.touch t hd⟩
end
end Go.Proofs.Ytlaffdfnmpkocaa.C1
