/- One train in a box. -/
import Derived.Test.YtmfeleocjmdooaaTrnK
namespace Go.Proofs.Ytmfeleocjmdooaa.C1
open Go.ChangeShapes Go.WideShapes Go.ChangeAt Go.RowKit
set_option linter.unusedVariables false

/-- A train in box p, its rows between B and L. -/
structure One (w : World) (p : Nat) (u : Bool) (A : Option Addr) (n c B L : Nat) (S : List (List Bt)) (g : Nat) (G : Nat → Nat) : Prop where
  x : TBox w p u A n c
  o : OwnT w B L A S g G
section
variable {w w' : World} {p : Nat} {u : Bool} {A : Option Addr} {n c B L : Nat} {S : List (List Bt)} {g : Nat} {G : Nat → Nat}
theorem One.below (h : One w p u A n c B L S g G) (hb : Below w.heap.size w w') : One w' p u A n c B L S g G := ⟨h.x.below hb, h.o.below hb⟩
theorem One.touch (h : One w p u A n c B L S g G) {B' L' : Nat} (t : Touch w w' B' L') (hp : p < B' ∨ L' ≤ p) (hd : L ≤ B' ∨ L' ≤ B) : One w' p u A n c B L S g G :=
  ⟨h.x.touch t hp, h.o.touch t hd⟩
theorem One.mark (h : One w p u A n c B L S g G) {S2 : List (List Bt)} (t : Touch w w' B L) (hp : p < B ∨ L ≤ p) (ho : OwnT w' B L A S2 g G) : One w' p u A n c B L S2 g G := ⟨h.x.touch t hp, ho⟩
end
end Go.Proofs.Ytmfeleocjmdooaa.C1
