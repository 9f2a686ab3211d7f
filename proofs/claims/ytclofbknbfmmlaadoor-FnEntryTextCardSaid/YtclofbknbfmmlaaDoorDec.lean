/- DecodeHex, of the program and of its model. -/
import Derived.Test.YtclofbknbfmmlaaDoorHex
import Derived.Test.YtclofbknbfmmlaaDoorShelf
namespace Go.Proofs.YtclofbknbfmmlaaDoor.C1
open Go.ChangeShapes Go.WideShapes Go.ChangeAt Go.RowKit
set_option linter.unusedVariables false

def valZ (x : Int) : Int := if 48 ≤ x ∧ x ≤ 57 then x - 48 else if 97 ≤ x ∧ x ≤ 102 then x - 87 else -1
theorem valZ_bd (x : Int) : -1 ≤ valZ x ∧ valZ x ≤ 15 := by unfold valZ; repeat' split <;> omega
/-- Byte i of a string, as a number. -/
def bz (s : ByteArray) (i : Nat) : Int := ((s.data.toList.getD i 0).toNat : Int)
theorem bz_bd (s : ByteArray) (i : Nat) : 0 ≤ bz s i ∧ bz s i ≤ 255 := by
  unfold bz; have := (s.data.toList.getD i 0).toNat_lt; omega
theorem bz_at (s : ByteArray) (i : Nat) (h : i < s.size) : ((s[i]).toNat : Int) = bz s i := by
  unfold bz
  have h' : i < s.data.toList.length := by simpa using h
  rw [List.getD_eq_getElem?_getD, List.getElem?_eq_getElem h']
  rfl
def goodAt (s : ByteArray) (j : Nat) : Prop := 0 ≤ valZ (bz s j) ∧ 0 ≤ valZ (bz s (j + 1))
def decB (s : ByteArray) (i : Nat) : UInt8 := UInt8.ofNat (16 * valZ (bz s (2 * i)) + valZ (bz s (2 * i + 1))).toNat
def decL (s : ByteArray) (k : Nat) : List UInt8 := (List.range k).map (decB s)
theorem decL_len (s : ByteArray) (k : Nat) : (decL s k).length = k := by simp [decL]
theorem decL_snoc (s : ByteArray) (k : Nat) : bcells (decL s (k + 1)) = bcells (decL s k) ++ [.int .u8 ((decB s k).toNat : Int)] := by
  unfold decL bcells
  rw [List.range_succ, List.map_append, List.map_append]
  rfl
theorem decB_toNat (s : ByteArray) (j k : Nat) (hj : j = 2 * k) (hg : goodAt s j) : ((decB s k).toNat : Int) = 16 * valZ (bz s j) + valZ (bz s (j + 1)) := by
  subst hj
  have b0 := valZ_bd (bz s (2 * k))
  have b1 := valZ_bd (bz s (2 * k + 1))
  obtain ⟨g0, g1⟩ := hg
  unfold decB
  rw [UInt8.toNat_ofNat']
  omega
/-- The pairs before m are digits, and m is the end or the first that is not. -/
def Upto (s : ByteArray) (m : Nat) : Prop := (∀ i, i < m → goodAt s (2 * i)) ∧ (2 * m = s.size ∨ (2 * m + 1 < s.size ∧ ¬ goodAt s (2 * m)))
theorem upto_ex (s : ByteArray) (h : s.size % 2 = 0) : ∃ m, Upto s m := by
  have h1 : ∀ n, 2 * n ≤ s.size → (∀ i, i < n → goodAt s (2 * i)) ∨ ∃ m, m < n ∧ (∀ i, i < m → goodAt s (2 * i)) ∧ ¬ goodAt s (2 * m) := by
    intro n
    induction n with
    | zero => exact fun _ => Or.inl fun i hi => absurd hi (by omega)
    | succ n ih =>
      intro hn
      rcases ih (by omega) with h2 | ⟨m, hm, h3⟩
      · by_cases hg : goodAt s (2 * n)
        · refine Or.inl fun i hi => ?_
          rcases Nat.lt_or_ge i n with h4 | h4
          · exact h2 i h4
          · obtain rfl : i = n := by omega
            exact hg
        · exact Or.inr ⟨n, by omega, h2, hg⟩
      · exact Or.inr ⟨m, by omega, h3⟩
  rcases h1 (s.size / 2) (by omega) with h2 | ⟨m, hm, h3, h4⟩
  · exact ⟨s.size / 2, h2, Or.inl (by omega)⟩
  · exact ⟨m, h3, Or.inr ⟨by omega, h4⟩⟩
theorem _root_.Go.World.ownsRow.drewN {w : World} {base size n : Nat} {e : TypeId} {v : Value} {xs : List Value} (h : w.ownsRow base e size v n xs) (k : Nat) : (w.drewN k).ownsRow base e size v n xs := h
def decRes (s : ByteArray) (m : Nat) : Value := if 2 * m = s.size then .tuple #[.string ⟨(decL s m).toArray⟩, .bool true] else .tuple #[.string ⟨#[]⟩, .bool false]
theorem one1 (a : Int) : ∀ x ∈ ([.int .u8 a] : List Value), x.oneCell' = true := by
  intro x hx
  simp at hx
  subst hx
  rfl
theorem news1 {w : World} {g : Nat} {t : TypeId} {u : Value} (h : w.heap[g]? = some (.cells #[u] t (0, 0))) : ∀ (j : Nat) (x : Value), [u][j]? = some x → w.cell? ((⟨g, 0, none⟩ : Addr).add j) = some x :=
  fun j x hx => World.news_of_block h j x hx
end Go.Proofs.YtclofbknbfmmlaaDoor.C1
