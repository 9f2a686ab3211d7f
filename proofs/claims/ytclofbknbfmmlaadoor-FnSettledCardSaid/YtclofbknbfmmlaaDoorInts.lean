/- Slices of integers: the conversion of a law's argument, the law's own comparison, its marking and its look back. -/
import Derived.Test.YtclofbknbfmmlaaDoorRow
import Derived.Deep.OwnRows
import Derived.Deep.QuietTactic
import Derived.BigQuiet
namespace Go.Proofs.YtclofbknbfmmlaaDoor.C1
open Go.ChangeShapes Go.WideShapes Go.ChangeAt Go.RowKit
set_option linter.unusedVariables false

/-- A slice of integers, wherever it lies. -/
def SrcI (w : World) (A : Option Addr) (n : Nat) (W : Nat → Int) : Prop := 0 < n → ∃ ad, A = some ad ∧ ∀ i, i < n → w.cell? (ad.add i) = some (.int .i64 (W i))
theorem src_int {w : World} {A : Option Addr} {n : Nat} {f : Nat → Int} (h : 0 < n → ∃ ad, A = some ad ∧ ∀ i, i < n → w.cell? (ad.add i) = some (.int .i64 (f i)) ∧ (Lit.int .i64 (f i)).wf = true) : SrcI w A n f := fun hn => by
  obtain ⟨ad, e, hc⟩ := h hn
  exact ⟨ad, e, fun i hi => (hc i hi).1⟩
theorem SrcI.below {w w' : World} {A : Option Addr} {n : Nat} {W : Nat → Int} (h : SrcI w A n W) (hb : Below w.heap.size w w') : SrcI w' A n W := fun hn => by
  obtain ⟨ad, e, hc⟩ := h hn
  exact ⟨ad, e, fun i hi => (hb.cell (World.block_lt_of_cell? _ _ (hc i hi))).trans (hc i hi)⟩
/-- A slice of integers at the head of block g (any block, if it is empty). -/
def RowI (w : World) (A : Option Addr) (n g : Nat) (W : Nat → Int) : Prop := (0 < n → A = some ⟨g, 0, none⟩) ∧ ∀ i, i < n → w.cell? ⟨g, i, none⟩ = some (.int .i64 (W i))
/-- It may be written. -/
def Free (w : World) (n g : Nat) : Prop := ∀ i, i < n → w.frozen? ⟨g, i, none⟩ = false
theorem RowI.of_row {w : World} {g n : Nat} {W : Nat → Int} (h : w.rowIs g 3 n (fun i => .int .i64 (W i))) : RowI w (some ⟨g, 0, none⟩) n g W ∧ Free w n g := ⟨⟨fun _ => rfl, fun i hi => h.cell hi⟩, fun i hi => h.frozen i⟩
theorem RowI.lt {w : World} {A : Option Addr} {n g i : Nat} {W : Nat → Int} (h : RowI w A n g W) (hi : i < n) : g < w.heap.size := World.block_lt_of_cell? _ _ (h.2 i hi)
theorem RowI.below {w w' : World} {A : Option Addr} {n g : Nat} {W : Nat → Int} (h : RowI w A n g W) (hb : Below w.heap.size w w') : RowI w' A n g W := ⟨h.1, fun i hi => (hb.cell (h.lt hi)).trans (h.2 i hi)⟩
theorem Free.below {w w' : World} {n g : Nat} (h : Free w n g) (hl : 0 < n → g < w.heap.size) (hb : Below w.heap.size w w') : Free w' n g := fun i hi => (hb.frozen (hl (by omega))).trans (h i hi)
theorem RowI.other {w w' : World} {A : Option Addr} {n g k : Nat} {W : Nat → Int} (h : RowI w A n g W) (hb : w.grownBy w' (some k)) (hne : 0 < n → g ≠ k) : RowI w' A n g W :=
  ⟨h.1, fun i hi => hb.cell (h.2 i hi) (by intro e; injection e with e; exact hne (by omega) e)⟩
theorem Free.other {w w' : World} {n g k : Nat} (h : Free w n g) (hl : 0 < n → g < w.heap.size) (hb : w.grownBy w' (some k)) (hne : 0 < n → g ≠ k) : Free w' n g := fun i hi => by
  have e := hb.block g (hl (by omega)) (by intro e; injection e with e; exact hne (by omega) e)
  have := h i hi
  unfold World.frozen? at *
  rw [e]; exact this
theorem RowI.congr {w : World} {A : Option Addr} {n g : Nat} {W V : Nat → Int} (h : RowI w A n g W) (e : ∀ i, i < n → W i = V i) : RowI w A n g V := ⟨h.1, fun i hi => by rw [← e i hi]; exact h.2 i hi⟩
end Go.Proofs.YtclofbknbfmmlaaDoor.C1
