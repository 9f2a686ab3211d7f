/- ShareOut of the model. -/
import Derived.Test.YtafjichhahbihaaShare
import Derived.Maps.AppendAt
import Derived.Deep.AppendLies
namespace Go.Proofs.Ytafjichhahbihaa.C1
open Go.ChangeShapes Go.WideShapes Go.ChangeAt Go.RowKit Go.Proofs.Ytafjichhahbihaa.ShareM
set_option linter.unusedVariables false

def ints (n : Nat) (F : Nat → Int) : List Value := (List.range n).map fun i => Value.int .i64 (F i)
theorem ints_len (n : Nat) (F : Nat → Int) : (ints n F).length = n := by simp [ints]
theorem ints_at (n k : Nat) (F : Nat → Int) (h : k < n) : (ints n F)[k]? = some (.int .i64 (F k)) := by
  unfold ints; rw [List.getElem?_map, List.getElem?_range h]; rfl
theorem ints_snoc (n : Nat) (F : Nat → Int) : ints (n + 1) F = ints n F ++ [.int .i64 (F n)] := by
  unfold ints; rw [List.range_succ, List.map_append]; rfl
theorem ints_congr {n : Nat} {F G : Nat → Int} (h : ∀ i, i < n → F i = G i) : ints n F = ints n G := by
  unfold ints; exact List.map_congr_left fun i hi => by rw [h i (List.mem_range.1 hi)]
theorem ints_set (n b : Nat) (F : Nat → Int) (x : Int) (h : b < n) : (ints n F).set b (.int .i64 x) = ints n (fun i => if i = b then x else F i) := by
  apply List.ext_getElem?
  intro i
  by_cases hi : i < n
  · rw [List.getElem?_set, ints_at n i _ hi, ints_at n i _ hi]
    by_cases e : b = i
    · subst e; rw [if_pos rfl, if_pos (by rw [ints_len]; exact h), if_pos rfl]
    · rw [if_neg e, if_neg (fun e2 => e e2.symm)]
  · rw [List.getElem?_eq_none (by rw [List.length_set, ints_len]; omega), List.getElem?_eq_none (by rw [ints_len]; omega)]
theorem one1i (a : Int) : ∀ x ∈ ([.int .i64 a] : List Value), x.oneCell' = true := by
  intro x hx
  simp at hx
  subst hx
  rfl
theorem news1i {w : World} {g : Nat} {t : TypeId} {u : Value} (h : w.heap[g]? = some (.cells #[u] t (0, 0))) : ∀ (j : Nat) (x : Value), [u][j]? = some x → w.cell? ((⟨g, 0, none⟩ : Addr).add j) = some x :=
  fun j x hx => World.news_of_block h j x hx
theorem own_formI {w : World} {base n size : Nat} {e : TypeId} {v : Value} {xs : List Value} (h : w.ownsRow base e size v n xs) : ∃ A cap, v = .slice A n cap := by
  rcases h.2 with ⟨h0, h1⟩ | ⟨g, cap, cur, h1, _⟩
  · exact ⟨none, 0, by rw [h0, h1]⟩
  · exact ⟨_, cap, h1⟩
theorem SrcG.of_own {w : World} {A : Option Addr} {n cap B : Nat} {F : Nat → Int} (h : w.ownsRow B 3 1 (.slice A n cap) n (ints n F)) : SrcG w A n F := fun hn => by
  obtain ⟨g, e, _, _, _, _⟩ := own_at h hn
  refine ⟨g, e, fun i hi => ?_⟩
  obtain ⟨g', e', _, _, hc, _⟩ := own_at h hi
  rw [e] at e'
  injection e' with e'
  injection e' with e'
  subst e'
  rw [hc, ints_at n i F hi]
/-- Two rows in blocks of their own. -/
def Two (w : World) (B : Nat) (v u : Value) (n : Nat) (F G : Nat → Int) : Prop :=
  w.ownsRow B 3 1 v n (ints n F) ∧ w.ownsRow B 3 1 u n (ints n G) ∧ v.ownBlock ≠ u.ownBlock
end Go.Proofs.Ytafjichhahbihaa.C1
