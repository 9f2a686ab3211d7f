/- What all elements of a list say. -/
import Derived.Test.YtngmpimoebggdaaNum
namespace Go.Proofs.Ytngmpimoebggdaa.C1
open Go.ChangeShapes Go.WideShapes Go.ChangeAt Go.RowKit
set_option linter.unusedVariables false

def allTo (P : Nat → Bool) : Nat → Bool
  | 0 => true
  | k + 1 => allTo P k && P k
theorem allTo_iff {P : Nat → Bool} {n : Nat} : allTo P n = true ↔ ∀ i, i < n → P i = true := by
  induction n with
  | zero => simp [allTo]
  | succ n ih =>
    simp only [allTo, Bool.and_eq_true, ih]
    constructor
    · rintro ⟨h1, h2⟩ i hi
      rcases Nat.lt_or_ge i n with h | h
      · exact h1 i h
      · obtain rfl : i = n := by omega
        exact h2
    · intro h
      exact ⟨fun i hi => h i (by omega), h n (by omega)⟩
theorem allTo_no {P : Nat → Bool} {n k : Nat} (hk : k < n) (h : P k = false) : allTo P n = false := by
  rw [Bool.eq_false_iff]
  intro h'
  rw [allTo_iff.1 h' k hk] at h
  cases h
theorem allTo_succ {P : Nat → Bool} {k : Nat} (h : allTo P k = true) (h' : P k = true) : allTo P (k + 1) = true := by rw [allTo, h, h']; rfl
/-- What a list's elements say, by their place. -/
def atL {α : Type} (p : α → Bool) (L : List α) (k : Nat) : Bool := ((L[k]?).map p).getD true
theorem atL_at {α : Type} {p : α → Bool} {L : List α} {k : Nat} {b : α} (h : L[k]? = some b) : atL p L k = p b := by unfold atL; rw [h]; rfl
theorem allTo_list {α : Type} (p : α → Bool) (L : List α) : allTo (atL p L) L.length = L.all p := by
  cases h : L.all p with
  | true =>
    refine allTo_iff.2 fun i hi => ?_
    obtain ⟨b, hb⟩ : ∃ b, L[i]? = some b := ⟨L[i], List.getElem?_eq_getElem hi⟩
    rw [atL_at hb]
    exact List.all_eq_true.1 h b (List.mem_of_getElem? hb)
  | false =>
    rw [List.all_eq_false] at h
    obtain ⟨b, hm, hb⟩ := h
    obtain ⟨i, hi⟩ := List.getElem?_of_mem hm
    have hl : i < L.length := by
      rcases Nat.lt_or_ge i L.length with h | h
      · exact h
      · rw [List.getElem?_eq_none h] at hi; cases hi
    exact allTo_no hl (by rw [atL_at hi]; simpa using hb)
end Go.Proofs.Ytngmpimoebggdaa.C1
