/- Slices of points: how they lie in memory, and the conversion of a law's argument. -/
import Derived.Test.YtclofbknbfmmlaaDoorRow
import Derived.Laws.MakeOwn
import Derived.Deep.OwnRows
namespace Go.Proofs.YtclofbknbfmmlaaDoor.C1
open Go.ChangeShapes Go.WideShapes Go.ChangeAt Go.RowKit
set_option linter.unusedVariables false

/-- The cells of points. -/
def ptc (X Y : Nat → Int) (j : Nat) : Value := if j % 2 = 0 then .int .i64 (X (j / 2)) else .int .i64 (Y (j / 2))
theorem ptc_x (X Y : Nat → Int) (i : Nat) : ptc X Y (i * 2) = .int .i64 (X i) := by
  unfold ptc; rw [if_pos (by omega), show i * 2 / 2 = i by omega]
theorem ptc_y (X Y : Nat → Int) (i : Nat) : ptc X Y (i * 2 + 1) = .int .i64 (Y i) := by
  unfold ptc; rw [if_neg (by omega), show (i * 2 + 1) / 2 = i by omega]
/-- A slice of points, wherever it lies: cell 2i is X i, cell 2i + 1 is Y i. -/
def SrcPts (w : World) (A : Option Addr) (n : Nat) (X Y : Nat → Int) : Prop :=
  0 < n → ∃ ad, A = some ad ∧ ∀ i, i < n → w.cell? (ad.add (i * 2)) = some (.int .i64 (X i)) ∧ w.cell? ⟨(ad.add (i * 2)).block, (ad.add (i * 2)).off + 1, none⟩ = some (.int .i64 (Y i))
theorem src_pts {w : World} {A : Option Addr} {n : Nat} {f : Nat → Nat → Int} (h : 0 < n → ∃ ad, A = some ad ∧ ∀ i, i < n → ∀ j, j < 2 → w.cell? ((ad.add (i * 2)).add j) = some (.int .i64 (f i j)) ∧ (Lit.int .i64 (f i j)).wf = true) :
    SrcPts w A n (fun i => f i 0) (fun i => f i 1) := fun hn => by
  obtain ⟨ad, e, hc⟩ := h hn
  exact ⟨ad, e, fun i hi => ⟨(hc i hi 0 (by decide)).1, (hc i hi 1 (by decide)).1⟩⟩
theorem cell_lt {w : World} {a : Addr} {v : Value} (h : w.cell? a = some v) : a.block < w.heap.size := by
  unfold World.cell? at h
  rcases Nat.lt_or_ge a.block w.heap.size with hl | hl
  · exact hl
  · rw [Array.getElem?_eq_none hl] at h; cases h
theorem SrcPts.below {w w' : World} {A : Option Addr} {n : Nat} {X Y : Nat → Int} (h : SrcPts w A n X Y) (hb : Below w.heap.size w w') : SrcPts w' A n X Y := fun hn => by
  obtain ⟨ad, e, hc⟩ := h hn
  exact ⟨ad, e, fun i hi => ⟨(hb.cell (cell_lt (hc i hi).1)).trans (hc i hi).1, (hb.cell (cell_lt (hc i hi).2)).trans (hc i hi).2⟩⟩

end Go.Proofs.YtclofbknbfmmlaaDoor.C1
