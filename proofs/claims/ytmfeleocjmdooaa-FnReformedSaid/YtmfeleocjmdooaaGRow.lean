/- Rows of things, of whatever type, that a call builds and fills. -/
import Derived.Test.YtmfeleocjmdooaaSideM
import Derived.Test.YtmfeleocjmdooaaOwnR
namespace Go.Proofs.Ytmfeleocjmdooaa.C1
open Go.ChangeShapes Go.WideShapes Go.ChangeAt Go.RowKit
set_option linter.unusedVariables false

/-- v is a slice of rows: its own row holds the values xs, each of them a row of one's own, no two in one block. -/
structure GRows {α : Type} (e eR : TypeId) (sz : Nat) (fl : List α → List Value) (w : World) (B : Nat) (v : Value) (T : List (List α)) (xs : List Value) : Prop where
  own : w.ownsRow B eR 1 v T.length xs
  row : ∀ (i : Nat) (r : List α), T[i]? = some r → ∃ u, xs[i]? = some u ∧ w.ownsRow B e sz u r.length (fl r)
  ne : ∀ (i j : Nat) (u u' : Value), xs[i]? = some u → xs[j]? = some u' → i ≠ j → u.ownBlock = none ∨ u.ownBlock ≠ u'.ownBlock
section
variable {α : Type} {e eR : TypeId} {sz : Nat} {fl : List α → List Value} {w w' : World} {B : Nat} {v : Value} {T : List (List α)} {xs : List Value}
theorem GRows.nil (w : World) (B : Nat) : GRows e eR sz fl w B (.slice none 0 0) [] [] := ⟨own_nil _ _ _ _, fun i r h => by simp at h, fun i j u u' h => by simp at h⟩
theorem GRows.below (h : GRows e eR sz fl w B v T xs) (hb : Below w.heap.size w w') : GRows e eR sz fl w' B v T xs :=
  ⟨own_below h.own hb, fun i r hi => by
    obtain ⟨u, h1, h2⟩ := h.row i r hi
    exact ⟨u, h1, own_below h2 hb⟩, h.ne⟩
theorem GRows.kept (h : GRows e eR sz fl w B v T xs) {q : Nat} (hg : w.grownBy w' (some q)) (hq : q < B) : GRows e eR sz fl w' B v T xs := by
  have hk : ∀ {e1 : TypeId} {s n : Nat} {u : Value} {ys : List Value}, w.ownsRow B e1 s u n ys → w'.ownsRow B e1 s u n ys := fun {e1 s n u ys} ho => ho.kept hg (by
    cases hv : u.ownBlock with
    | none => exact Or.inl rfl
    | some k => exact Or.inr (by have := (ho.lt k hv).1; intro e; injection e with e; omega))
  exact ⟨hk h.own, fun i r hi => by
    obtain ⟨u, h1, h2⟩ := h.row i r hi
    exact ⟨u, h1, hk h2⟩, h.ne⟩
theorem GRows.set (h : GRows e eR sz fl w B v T xs) {q j : Nat} {u : Value} (hq : q < B) : GRows e eR sz fl (w.setCell ⟨q, j, none⟩ u) B v T xs := h.kept (grown_set (World.grownBy.refl _ _)) hq
theorem GRows.len (h : GRows e eR sz fl w B v T xs) : xs.length = T.length := by have := h.own.1; omega
theorem GRows.snoc (hne30 : e ≠ eR) {w2 w3 : World} {u v' : Value} {r : List α} {o : Obj} (h : GRows e eR sz fl w B v T xs) (hB : B ≤ w.heap.size) (hb : Below w.heap.size w w2) (hu : w2.ownsRow w.heap.size e sz u r.length (fl r))
    (h3 : w3.ownsRow B eR 1 v' (T.length + 1) (xs ++ [u])) (hg : (w2.alloc o).grownBy w3 v.ownBlock) : GRows e eR sz fl w3 B v' (T ++ [r]) (xs ++ [u]) := by
  have hl := h.len
  have h2 := h.below hb
  have ho := h2.own.alloc o
  have hxu : ∀ (i : Nat) (x : Value), xs[i]? = some x → x.ownBlock = none ∨ u.ownBlock = none ∨ x.ownBlock ≠ u.ownBlock := fun i x hx => by
    obtain ⟨r', hr'⟩ := get_of (L := T) (k := i) (by have := len_of hx; omega)
    obtain ⟨x', h1', h2'⟩ := h.row i r' hr'
    rw [hx] at h1'
    injection h1' with h1'
    subst h1'
    cases hxb : x.ownBlock with
    | none => exact Or.inl rfl
    | some k =>
      cases hub : u.ownBlock with
      | none => exact Or.inr (Or.inl rfl)
      | some k' =>
        have a1 := (h2'.lt k hxb).2
        have a2 := (hu.lt k' hub).1
        exact Or.inr (Or.inr (by intro e; injection e with e; omega))
  refine ⟨by rw [List.length_append]; exact h3, fun i s hi => ?_, fun i j x x' hx hx' hij => ?_⟩
  · rcases Nat.lt_or_ge i T.length with hlt | hge
    · rw [List.getElem?_append_left hlt] at hi
      obtain ⟨x, h4, h5⟩ := h2.row i s hi
      exact ⟨x, by rw [List.getElem?_append_left (by omega)]; exact h4, (h5.alloc o).kept hg (own_ne (h5.alloc o) ho hne30)⟩
    · have hi' := len_of hi
      rw [List.length_append] at hi'
      have e : i = T.length := by simp at hi'; omega
      subst e
      rw [List.getElem?_append_right (Nat.le_refl _), Nat.sub_self] at hi
      simp at hi
      subst hi
      refine ⟨u, ?_, ((own_base hu hB).alloc o).kept hg (own_ne ((own_base hu hB).alloc o) ho hne30)⟩
      rw [List.getElem?_append_right (by omega), hl, Nat.sub_self]; rfl
  · have h4 := len_of hx
    have h5 := len_of hx'
    simp at h4 h5
    rcases Nat.lt_or_ge i xs.length with hi | hi
    · rw [List.getElem?_append_left hi] at hx
      rcases Nat.lt_or_ge j xs.length with hj | hj
      · rw [List.getElem?_append_left hj] at hx'
        exact h.ne i j x x' hx hx' hij
      · have e : j = xs.length := by omega
        subst e
        rw [List.getElem?_append_right (Nat.le_refl _), Nat.sub_self] at hx'
        simp at hx'
        subst hx'
        rcases hxu i x hx with h | h | h
        · exact Or.inl h
        · cases hxb : x.ownBlock with
          | none => exact Or.inl rfl
          | some k => exact Or.inr (by rw [h]; simp)
        · exact Or.inr h
    · have e : i = xs.length := by omega
      subst e
      rw [List.getElem?_append_right (Nat.le_refl _), Nat.sub_self] at hx
      simp at hx
      subst hx
      rw [List.getElem?_append_left (by omega)] at hx'
      rcases hxu j x' hx' with h | h | h
      · cases hub : u.ownBlock with
        | none => exact Or.inl rfl
        | some k => exact Or.inr (by rw [h]; simp)
      · exact Or.inl h
      · exact Or.inr fun e => h e.symm
end
/-- The last row has taken one thing more (in place, or in a new block), and its slot in the rows' own row has been filled anew. -/
theorem GRows.growLast {α : Type} {e eR : TypeId} {sz : Nat} {fl : List α → List Value} (hne30 : e ≠ eR) {w w2 : World} {B g0 d g cap : Nat} {M : List (List α)} {r r' : List α} {xs : List Value} {x : Value}
    (h : GRows e eR sz fl w B (.slice (some ⟨g0, 0, none⟩) (M.length + 1) d) (M ++ [r]) (xs ++ [x])) (hown : w2.ownsRow B e sz (.slice (some ⟨g, 0, none⟩) r'.length cap) r'.length (fl r'))
    (hgr : w.grownBy w2 x.ownBlock) (hat : x.ownBlock = some g ∨ g = w.heap.size) :
    GRows e eR sz fl (w2.setCell ⟨g0, M.length, none⟩ (.slice (some ⟨g, 0, none⟩) r'.length cap)) B (.slice (some ⟨g0, 0, none⟩) (M.length + 1) d) (M ++ [r']) (xs ++ [.slice (some ⟨g, 0, none⟩) r'.length cap]) := by
  have hl : xs.length = M.length := by have := h.len; simp at this; exact this
  obtain ⟨x', hx', hx⟩ := h.row M.length r (by simp)
  have ex : x' = x := by
    rw [List.getElem?_append_right (by omega), hl, Nat.sub_self] at hx'
    simpa using hx'.symm
  subst ex
  have hlast : (xs ++ [x'])[M.length]? = some x' := hx'
  have hs2 : w2.ownsRow B eR 1 (.slice (some ⟨g0, 0, none⟩) (M.length + 1) d) (M.length + 1) (xs ++ [x']) := by
    have := h.own.kept hgr (by
      rcases own_ne hx h.own hne30 with h1 | h1
      · rw [h1]; exact Or.inr (by simp [Value.ownBlock])
      · exact Or.inr fun e => h1 e.symm)
    simpa using this
  have hs3 := (hs2.stored M.length (.slice (some ⟨g, 0, none⟩) r'.length cap)).1
  have hgg : g ≠ g0 := by
    intro e
    subst e
    rcases own_ne hown hs2 hne30 with h1 | h1
    · simp [Value.ownBlock] at h1
    · exact h1 rfl
  have hrow : ∀ {u : Value} {n : Nat} {ys : List Value}, w2.ownsRow B e sz u n ys → (w2.setCell ⟨g0, M.length, none⟩ (.slice (some ⟨g, 0, none⟩) r'.length cap)).ownsRow B e sz u n ys := fun {u n ys} hu =>
    hu.kept (grown_set (World.grownBy.refl _ (some g0))) (own_ne hu hs2 hne30)
  refine ⟨?_, fun i s hi => ?_, fun i j u u' hu hu' hij => ?_⟩
  · have e : (xs ++ [x']).set M.length (.slice (some ⟨g, 0, none⟩) r'.length cap) = xs ++ [.slice (some ⟨g, 0, none⟩) r'.length cap] := by rw [← hl]; simp
    rw [← e]
    simpa using hs3
  · rcases Nat.lt_or_ge i M.length with hlt | hge
    · rw [List.getElem?_append_left hlt] at hi
      obtain ⟨y, h1, h2⟩ := h.row i s (by rw [List.getElem?_append_left hlt]; exact hi)
      refine ⟨y, ?_, hrow (h2.kept hgr ?_)⟩
      · rw [List.getElem?_append_left (by omega)] at h1 ⊢; exact h1
      · rcases h.ne i M.length y x' h1 hlast (by omega) with h3 | h3
        · exact Or.inl h3
        · exact Or.inr h3
    · have hi' := len_of hi
      rw [List.length_append] at hi'
      have e : i = M.length := by simp at hi'; omega
      subst e
      rw [List.getElem?_append_right (Nat.le_refl _), Nat.sub_self] at hi
      simp at hi
      subst hi
      exact ⟨.slice (some ⟨g, 0, none⟩) r'.length cap, by rw [List.getElem?_append_right (by omega), hl, Nat.sub_self]; rfl, hrow hown⟩
  · have hold : ∀ (k : Nat) (y : Value), k < M.length → (xs ++ [.slice (some ⟨g, 0, none⟩) r'.length cap])[k]? = some y → y.ownBlock = none ∨ y.ownBlock ≠ some g := fun k y hk hy => by
      rw [List.getElem?_append_left (by omega)] at hy
      have hy' : (xs ++ [x'])[k]? = some y := by rw [List.getElem?_append_left (by omega)]; exact hy
      rcases hat with h3 | h3
      · rw [← h3]; exact h.ne k M.length y x' hy' hlast (by omega)
      · obtain ⟨s, hs⟩ := get_of (L := M ++ [r]) (k := k) (by simp; omega)
        obtain ⟨y', h4, h5⟩ := h.row k s hs
        rw [hy'] at h4
        injection h4 with h4
        subst h4
        cases hyb : y.ownBlock with
        | none => exact Or.inl rfl
        | some q =>
          have := (h5.lt q hyb).2
          exact Or.inr (by intro e; injection e with e; omega)
    have a1 := len_of hu
    have a2 := len_of hu'
    simp at a1 a2
    have hv : (xs ++ [.slice (some ⟨g, 0, none⟩) r'.length cap])[M.length]? = some (.slice (some ⟨g, 0, none⟩) r'.length cap) := by rw [List.getElem?_append_right (by omega), hl, Nat.sub_self]; rfl
    rcases Nat.lt_or_ge i M.length with hi | hi
    · rcases Nat.lt_or_ge j M.length with hj | hj
      · rw [List.getElem?_append_left (by omega)] at hu hu'
        exact h.ne i j u u' (by rw [List.getElem?_append_left (by omega)]; exact hu) (by rw [List.getElem?_append_left (by omega)]; exact hu') hij
      · have e : j = M.length := by omega
        subst e
        rw [hv] at hu'
        injection hu' with hu'
        subst hu'
        exact hold i u hi hu
    · have e : i = M.length := by omega
      subst e
      rw [hv] at hu
      injection hu with hu
      subst hu
      rcases hold j u' (by omega) hu' with h3 | h3
      · exact Or.inr (by rw [h3]; simp [Value.ownBlock])
      · exact Or.inr fun e => h3 e.symm
theorem GRows.slot {α : Type} {e eR : TypeId} {sz : Nat} {fl : List α → List Value} (hne30 : e ≠ eR) {w w2 : World} {B g0 d : Nat} {M : List (List α)} {r : List α} {xs : List Value} {x : Value}
    (h : GRows e eR sz fl w B (.slice (some ⟨g0, 0, none⟩) (M.length + 1) d) (M ++ [r]) (xs ++ [x])) (hgr : w.grownBy w2 x.ownBlock) : w2.cell? ⟨g0, M.length, none⟩ = some x ∧ w2.frozen? ⟨g0, M.length, none⟩ = false := by
  have hl : xs.length = M.length := by have := h.len; simp at this; exact this
  obtain ⟨x', hx', hx⟩ := h.row M.length r (by simp)
  have ex : x' = x := by
    rw [List.getElem?_append_right (by omega), hl, Nat.sub_self] at hx'
    simpa using hx'.symm
  subst ex
  have hs2 : w2.ownsRow B eR 1 (.slice (some ⟨g0, 0, none⟩) (M.length + 1) d) (M.length + 1) (xs ++ [x']) := by
    have := h.own.kept hgr (by
      rcases own_ne hx h.own hne30 with h1 | h1
      · rw [h1]; exact Or.inr (by simp [Value.ownBlock])
      · exact Or.inr fun e => h1 e.symm)
    simpa using this
  exact ⟨by rw [hs2.cellAt _ (by omega)]; exact hx', hs2.frozenAt _⟩
end Go.Proofs.Ytmfeleocjmdooaa.C1
