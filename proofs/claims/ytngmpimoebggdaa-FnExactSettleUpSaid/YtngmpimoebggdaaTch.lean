/- What a marking leaves: one block has changed, all others are as they were. -/
import Derived.Test.YtngmpimoebggdaaApp
import Derived.Laws.IdiomCopy
namespace Go.Proofs.Ytngmpimoebggdaa.C1
open Go.ChangeShapes Go.WideShapes Go.ChangeAt Go.RowKit
set_option linter.unusedVariables false

theorem grown_sets {w : World} {g : Nat} : ∀ (vs : List Value) (o : Nat) {wr : World}, w.grownBy wr (some g) → w.grownBy (wr.setCells g o vs) (some g)
  | [], _, _, h => h
  | v :: r, o, _, h => grown_sets r (o + 1) (grown_set h)
theorem touch_new' {w w' : World} {B L : Nat} (h : w.grownBy w' (some w.heap.size)) : Touch w w' B L := ⟨h.os, h.tape, h.output, h.size, fun k hk _ => h.block k hk (by intro e; injection e with e; omega)⟩
/-- Only block q has changed, and not even that where n is 0. -/
def TouchAt (w w' : World) (q n : Nat) : Prop := ∀ B L, (0 < n → B ≤ q ∧ q < L) → Touch w w' B L
theorem TouchAt.block {w w' : World} {q n x : Nat} (h : TouchAt w w' q n) (hx : x < w.heap.size) (hne : 0 < n → x ≠ q) : w'.heap[x]? = w.heap[x]? := by
  rcases Nat.eq_zero_or_pos n with h0 | h0
  · exact (h 0 0 (fun h => by omega)).block x hx (Or.inr (Nat.zero_le _))
  · exact (h q (q + 1) (fun _ => ⟨Nat.le_refl _, Nat.lt_succ_self _⟩)).block x hx (by have := hne h0; omega)
end Go.Proofs.Ytngmpimoebggdaa.C1
