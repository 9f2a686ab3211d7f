/- The Ids of a train: of the program and of its model. -/
import Derived.Test.YtmabaibpdjmckaaGreatTrI3
import Derived.Test.YtmabaibpdjmckaaGreatTrnU
namespace Go.Proofs.YtmabaibpdjmckaaGreat.C1
open Go.ChangeShapes Go.WideShapes Go.ChangeAt Go.RowKit
set_option linter.unusedVariables false

/-- Two rows of one's own of different types lie in different blocks. -/
theorem own_ne {w : World} {B B' s s' n n' : Nat} {e e' : TypeId} {v v' : Value} {xs xs' : List Value} (h : w.ownsRow B e s v n xs) (h' : w.ownsRow B' e' s' v' n' xs') (hne : e ≠ e') : v.ownBlock = none ∨ v.ownBlock ≠ v'.ownBlock := by
  rcases h.2 with ⟨rfl, _⟩ | ⟨g, c, cur, rfl, _, hg, _⟩
  · exact Or.inl rfl
  · rcases h'.2 with ⟨rfl, _⟩ | ⟨g', c', cur', rfl, _, hg', _⟩
    · exact Or.inr (by simp [Value.ownBlock])
    · refine Or.inr fun h => ?_
      simp only [Value.ownBlock, Option.some.injEq] at h
      subst h
      rw [hg] at hg'
      injection hg' with hg'
      injection hg' with _ h2
      exact hne h2
def idN (T : List (List Bt)) : Nat := if tOk T = true then (bts T).length else 0
theorem idN_le (T : List (List Bt)) : idN T ≤ 6 := by
  unfold idN
  split
  · rename_i h; exact (in_tOk h).n1
  · omega
/-- What a function that gives the Ids leaves. -/
def GivesIds (w : World) (T : List (List Bt)) (e : Ending) (w' : World) : Prop :=
  (∃ A' c' g, e = .returned (.slice A' (idN T) c') ∧ RowI w' A' (idN T) g (idf (bts T)) ∧ Free w' (idN T) g ∧ w.heap.size ≤ g ∧ (0 < idN T → g < w'.heap.size)) ∧ Below w.heap.size w w'
theorem gives_of_own {w w' : World} {T : List (List Bt)} {v : Value} (h : w'.ownsRow w.heap.size 3 1 v (idN T) (itl (idN T) (idf (bts T)))) (hb : Below w.heap.size w w') : GivesIds w T (.returned v) w' := by
  obtain ⟨A, c, g, rfl, _, h1, h2, h3, h4⟩ := rowI_of_own h hb.size
  exact ⟨⟨A, c, g, rfl, h1, h2, h3, h4⟩, hb⟩
theorem gives_none {w w' : World} {T : List (List Bt)} {A : Option Addr} {c : Nat} (h : idN T = 0) (hb : Below w.heap.size w w') : GivesIds w T (.returned (.slice A 0 c)) w' :=
  ⟨⟨A, c, w.heap.size, by rw [h], by rw [h]; exact ⟨fun h => by omega, fun i hi => by omega⟩, by rw [h]; exact fun i hi => by omega, Nat.le_refl _, fun h' => by omega⟩, hb⟩
end Go.Proofs.YtmabaibpdjmckaaGreat.C1
