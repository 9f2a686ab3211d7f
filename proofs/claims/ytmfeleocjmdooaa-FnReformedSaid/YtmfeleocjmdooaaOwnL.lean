/- Rows of boats that a call builds: one boat more in the last row. -/
import Derived.Test.YtmfeleocjmdooaaTrD
import Derived.Test.YtmfeleocjmdooaaTrnR
import Derived.Laws.OwnMore
namespace Go.Proofs.Ytmfeleocjmdooaa.C1
open Go.ChangeShapes Go.WideShapes Go.ChangeAt Go.RowKit
set_option linter.unusedVariables false

/-- The last row has taken one boat more (in place, or in a new block), and its slot in the rows' own row has been filled anew. -/
theorem OwnRows.growLast {w w2 : World} {B g0 d g cap : Nat} {M : List (List Bt)} {r r' : List Bt} {xs : List Value} {x : Value}
    (h : OwnRows w B (.slice (some ⟨g0, 0, none⟩) (M.length + 1) d) (M ++ [r]) (xs ++ [x])) (hown : w2.ownsRow B 29 6 (.slice (some ⟨g, 0, none⟩) r'.length cap) r'.length (btl r'))
    (hgr : w.grownBy w2 x.ownBlock) (hat : x.ownBlock = some g ∨ g = w.heap.size) :
    OwnRows (w2.setCell ⟨g0, M.length, none⟩ (.slice (some ⟨g, 0, none⟩) r'.length cap)) B (.slice (some ⟨g0, 0, none⟩) (M.length + 1) d) (M ++ [r']) (xs ++ [.slice (some ⟨g, 0, none⟩) r'.length cap]) := by
  have hl : xs.length = M.length := by have := h.len; simp at this; exact this
  have hne30 : (29 : TypeId) ≠ 30 := by decide
  obtain ⟨x', hx', hx⟩ := h.row M.length r (by simp)
  have ex : x' = x := by
    rw [List.getElem?_append_right (by omega), hl, Nat.sub_self] at hx'
    simpa using hx'.symm
  subst ex
  have hlast : (xs ++ [x'])[M.length]? = some x' := hx'
  have hs2 : w2.ownsRow B 30 1 (.slice (some ⟨g0, 0, none⟩) (M.length + 1) d) (M.length + 1) (xs ++ [x']) := by
    have := h.own.kept hgr (by
      rcases own_ne hx h.own hne30 with h1 | h1
      · rw [h1]; exact Or.inr (by simp [Value.ownBlock])
      · exact Or.inr fun e => h1 e.symm)
    simpa using this
  have hs3 := (hs2.stored M.length (.slice (some ⟨g, 0, none⟩) r'.length cap)).1
  have hgg : g ≠ g0 := by
    intro e
    subst e
    rcases own_ne hown hs2 hne30 with h1 | h1
    · simp [Value.ownBlock] at h1
    · exact h1 rfl
  have hrow : ∀ {u : Value} {n : Nat} {ys : List Value}, w2.ownsRow B 29 6 u n ys → (w2.setCell ⟨g0, M.length, none⟩ (.slice (some ⟨g, 0, none⟩) r'.length cap)).ownsRow B 29 6 u n ys := fun {u n ys} hu =>
    hu.kept (grown_set (World.grownBy.refl _ (some g0))) (own_ne hu hs2 hne30)
  refine ⟨?_, fun i s hi => ?_, fun i j u u' hu hu' hij => ?_⟩
  · have e : (xs ++ [x']).set M.length (.slice (some ⟨g, 0, none⟩) r'.length cap) = xs ++ [.slice (some ⟨g, 0, none⟩) r'.length cap] := by rw [← hl]; simp
    rw [← e]
    simpa using hs3
  · rcases Nat.lt_or_ge i M.length with hlt | hge
    · rw [List.getElem?_append_left hlt] at hi
      obtain ⟨y, h1, h2⟩ := h.row i s (by rw [List.getElem?_append_left hlt]; exact hi)
      refine ⟨y, ?_, hrow (h2.kept hgr ?_)⟩
      · rw [List.getElem?_append_left (by omega)] at h1 ⊢; exact h1
      · rcases h.ne i M.length y x' h1 hlast (by omega) with h3 | h3
        · exact Or.inl h3
        · exact Or.inr h3
    · have hi' := len_of hi
      rw [List.length_append] at hi'
      have e : i = M.length := by simp at hi'; omega
      subst e
      rw [List.getElem?_append_right (Nat.le_refl _), Nat.sub_self] at hi
      simp at hi
      subst hi
      exact ⟨.slice (some ⟨g, 0, none⟩) r'.length cap, by rw [List.getElem?_append_right (by omega), hl, Nat.sub_self]; rfl, hrow hown⟩
  · have hold : ∀ (k : Nat) (y : Value), k < M.length → (xs ++ [.slice (some ⟨g, 0, none⟩) r'.length cap])[k]? = some y → y.ownBlock = none ∨ y.ownBlock ≠ some g := fun k y hk hy => by
      rw [List.getElem?_append_left (by omega)] at hy
      have hy' : (xs ++ [x'])[k]? = some y := by rw [List.getElem?_append_left (by omega)]; exact hy
      rcases hat with h3 | h3
      · rw [← h3]; exact h.ne k M.length y x' hy' hlast (by omega)
      · obtain ⟨s, hs⟩ := get_of (L := M ++ [r]) (k := k) (by simp; omega)
        obtain ⟨y', h4, h5⟩ := h.row k s hs
        rw [hy'] at h4
        injection h4 with h4
        subst h4
        cases hyb : y.ownBlock with
        | none => exact Or.inl rfl
        | some q =>
          have := (h5.lt q hyb).2
          exact Or.inr (by intro e; injection e with e; omega)
    have a1 := len_of hu
    have a2 := len_of hu'
    simp at a1 a2
    have hv : (xs ++ [.slice (some ⟨g, 0, none⟩) r'.length cap])[M.length]? = some (.slice (some ⟨g, 0, none⟩) r'.length cap) := by rw [List.getElem?_append_right (by omega), hl, Nat.sub_self]; rfl
    rcases Nat.lt_or_ge i M.length with hi | hi
    · rcases Nat.lt_or_ge j M.length with hj | hj
      · rw [List.getElem?_append_left (by omega)] at hu hu'
        exact h.ne i j u u' (by rw [List.getElem?_append_left (by omega)]; exact hu) (by rw [List.getElem?_append_left (by omega)]; exact hu') hij
      · have e : j = M.length := by omega
        subst e
        rw [hv] at hu'
        injection hu' with hu'
        subst hu'
        exact hold i u hi hu
    · have e : i = M.length := by omega
      subst e
      rw [hv] at hu
      injection hu with hu
      subst hu
      rcases hold j u' (by omega) hu' with h3 | h3
      · exact Or.inr (by rw [h3]; simp [Value.ownBlock])
      · exact Or.inr fun e => h3 e.symm
end Go.Proofs.Ytmfeleocjmdooaa.C1
