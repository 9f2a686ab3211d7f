/- Bundles of facts that the exact laws on two trains carry from world to world. -/
import Derived.Test.YtmfeleocjmdooaaTrnK
import Derived.Test.YtmfeleocjmdooaaTrDs
namespace Go.Proofs.Ytmfeleocjmdooaa.C1
open Go.ChangeShapes Go.WideShapes Go.ChangeAt Go.RowKit
set_option linter.unusedVariables false

theorem mod_nil : Mod [] := ⟨by simp, by simp [bts]⟩
theorem divF_mod {T : List (List Bt)} (h : Mod T) (k : Int) : Mod (divF T k) := by
  unfold divF; split
  · exact h.take _
  · exact mod_nil
theorem divS_mod {T : List (List Bt)} (h : Mod T) (k : Int) : Mod (divS T k) := by
  unfold divS; split
  · exact h.drop _
  · exact mod_nil
/-- Two trains in boxes p and p + 1, their rows between B, M and L. -/
structure Two (w : World) (p : Nat) (u : Bool) (A A' : Option Addr) (n n' c c' : Nat) (B M L : Nat) (S S' : List (List Bt)) (g g' : Nat) (G G' : Nat → Nat) : Prop where
  x : TBox w p u A n c
  y : TBox w (p + 1) u A' n' c'
  o : OwnT w B M A S g G
  o' : OwnT w M L A' S' g' G'
section
variable {w w' : World} {p : Nat} {u : Bool} {A A' : Option Addr} {n n' c c' B M L : Nat} {S S' : List (List Bt)} {g g' : Nat} {G G' : Nat → Nat}
theorem Two.below (h : Two w p u A A' n n' c c' B M L S S' g g' G G') (hb : Below w.heap.size w w') : Two w' p u A A' n n' c c' B M L S S' g g' G G' := ⟨h.x.below hb, h.y.below hb, h.o.below hb, h.o'.below hb⟩
theorem Two.touch (h : Two w p u A A' n n' c c' B M L S S' g g' G G') {B' L' : Nat} (t : Touch w w' B' L') (h1 : B ≤ M) (h2 : M ≤ L) (h3 : L ≤ p) (hd : p + 2 ≤ B' ∨ L' ≤ B) : Two w' p u A A' n n' c c' B M L S S' g g' G G' :=
  ⟨h.x.touch t (by omega), h.y.touch t (by omega), h.o.touch t (by omega), h.o'.touch t (by omega)⟩
theorem Two.first (h : Two w p u A A' n n' c c' B M L S S' g g' G G') {S2 : List (List Bt)} (t : Touch w w' B M) (h1 : B ≤ M) (h2 : M ≤ L) (h3 : L ≤ p) (ho : OwnT w' B M A S2 g G) : Two w' p u A A' n n' c c' B M L S2 S' g g' G G' :=
  ⟨h.x.touch t (by omega), h.y.touch t (by omega), ho, h.o'.touch t (by omega)⟩
theorem Two.second (h : Two w p u A A' n n' c c' B M L S S' g g' G G') {S2 : List (List Bt)} (t : Touch w w' M L) (h1 : B ≤ M) (h2 : M ≤ L) (h3 : L ≤ p) (ho : OwnT w' M L A' S2 g' G') : Two w' p u A A' n n' c c' B M L S S2 g g' G G' :=
  ⟨h.x.touch t (by omega), h.y.touch t (by omega), h.o.touch t (by omega), ho⟩
end
end Go.Proofs.Ytmfeleocjmdooaa.C1
