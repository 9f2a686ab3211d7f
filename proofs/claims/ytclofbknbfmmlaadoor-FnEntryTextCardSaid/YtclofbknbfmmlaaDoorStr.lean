/- Rows of strings, and how the laws compare and mark them. -/
import Derived.Test.YtclofbknbfmmlaaDoorRow
import Derived.Test.YtclofbknbfmmlaaDoorFmt
import Derived.Deep.RegionHeld3
namespace Go.Proofs.YtclofbknbfmmlaaDoor.C1
open Go.ChangeShapes Go.WideShapes Go.ChangeAt Go.RowKit Go.Proofs.YtclofbknbfmmlaaDoor.Lift
set_option linter.unusedVariables false

def strs (fs : List (List UInt8)) : List Value := fs.map fun l => Value.string ⟨l.toArray⟩
theorem strs_at (fs : List (List UInt8)) (k : Nat) (h : k < fs.length) : (strs fs)[k]? = some (.string ⟨(fs.getD k []).toArray⟩) := by
  unfold strs
  rw [List.getElem?_map, List.getElem?_eq_getElem h]
  simp [List.getD_eq_getElem?_getD, h]
theorem strs_len (fs : List (List UInt8)) : (strs fs).length = fs.length := by simp [strs]
def mtext (k : Nat) : List UInt8 := 109 :: Lib.decDigits k
def marks (k n : Nat) : List (List UInt8) := (List.range n).map fun i => mtext (k + i)
theorem marks_at (k n i : Nat) (h : i < n) : (marks k n).getD i [] = mtext (k + i) := by
  unfold marks; simp [List.getD_eq_getElem?_getD, h]
theorem marks_len (k n : Nat) : (marks k n).length = n := by simp [marks]
theorem marks_snoc (K k : Nat) : marks K (k + 1) = marks K k ++ [mtext (K + k)] := by
  unfold marks; rw [List.range_succ, List.map_append]; rfl
theorem set_mid {α : Type} (a r : List α) (k : Nat) (hk : k = a.length) (x y : α) : (a ++ x :: r).set k y = (a ++ [y]) ++ r := by
  subst hk
  rw [List.set_append_right _ _ (Nat.le_refl _)]
  simp
end Go.Proofs.YtclofbknbfmmlaaDoor.C1
