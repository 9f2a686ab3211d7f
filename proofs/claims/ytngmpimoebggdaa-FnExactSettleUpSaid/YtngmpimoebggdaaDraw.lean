/- The drawing functions of the laws: what is drawn lies in its range, and nothing but the cursor has changed. -/
import Derived.Test.YtngmpimoebggdaaNum
import Derived.Laws.MakeOwn
import Derived.Deep.OwnRows
import Derived.RegionTactic
namespace Go.Proofs.Ytngmpimoebggdaa.C1
open Go.ChangeShapes Go.WideShapes Go.ChangeAt Go.RowKit
set_option linter.unusedVariables false

theorem cell_lt' {w : World} {a : Addr} {v : Value} (h : w.cell? a = some v) : a.block < w.heap.size := by
  unfold World.cell? at h
  rcases Nat.lt_or_ge a.block w.heap.size with hl | hl
  · exact hl
  · rw [Array.getElem?_eq_none hl] at h; cases h
/-- A slice of bytes, wherever it lies. -/
def SrcB (w : World) (A : Option Addr) (n : Nat) (f : Nat → Int) : Prop :=
  0 < n → ∃ ad, A = some ad ∧ ∀ j, j < n → w.cell? (ad.add j) = some (.int .u8 (f j)) ∧ 0 ≤ f j ∧ f j ≤ 255
theorem SrcB.below {w w' : World} {A : Option Addr} {n : Nat} {f : Nat → Int} (h : SrcB w A n f) (hb : Below w.heap.size w w') : SrcB w' A n f := fun hn => by
  obtain ⟨ad, e, hc⟩ := h hn
  exact ⟨ad, e, fun i hi => ⟨(hb.cell (cell_lt' (hc i hi).1)).trans (hc i hi).1, (hc i hi).2⟩⟩

/-- at: a number from 0 to 255. -/
def atZ (n : Nat) (f : Nat → Int) (i : Int) : Int := if n = 0 then 0 else f ((i * 5 + 1) % n).toNat
theorem atZ_bd {w : World} {A : Option Addr} {n : Nat} {f : Nat → Int} (h : SrcB w A n f) (i : Int) : 0 ≤ atZ n f i ∧ atZ n f i ≤ 255 := by
  unfold atZ
  split
  · omega
  · obtain ⟨ad, _, hc⟩ := h (by omega)
    have h1 := Int.emod_nonneg (i * 5 + 1) (by omega : (n : Int) ≠ 0)
    have h2 := Int.emod_lt_of_pos (i * 5 + 1) (by omega : (0 : Int) < n)
    exact (hc _ (by omega)).2
end Go.Proofs.Ytngmpimoebggdaa.C1
