/- Rows of boats that a call builds, one append after the other. -/
import Derived.Test.YtmfeleocjmdooaaTrId
import Derived.Deep.AppendLies
namespace Go.Proofs.Ytmfeleocjmdooaa.C1
open Go.ChangeShapes Go.WideShapes Go.ChangeAt Go.RowKit
set_option linter.unusedVariables false

theorem own_one {w : World} {B n size : Nat} {e : TypeId} {v : Value} {xs : List Value} (h : w.ownsRow B e size v n xs) : v.oneCell' = true := by
  rcases h.2 with ⟨rfl, _⟩ | ⟨g, cap, cur, rfl, _⟩ <;> rfl
/-- v is a slice of rows of boats: its own row holds the values xs, each of them a row of one's own, no two in one block. -/
structure OwnRows (w : World) (B : Nat) (v : Value) (T : List (List Bt)) (xs : List Value) : Prop where
  own : w.ownsRow B 30 1 v T.length xs
  row : ∀ (i : Nat) (r : List Bt), T[i]? = some r → ∃ u, xs[i]? = some u ∧ w.ownsRow B 29 6 u r.length (btl r)
  ne : ∀ (i j : Nat) (u u' : Value), xs[i]? = some u → xs[j]? = some u' → i ≠ j → u.ownBlock = none ∨ u.ownBlock ≠ u'.ownBlock
section
variable {w w' : World} {B : Nat} {v : Value} {T : List (List Bt)} {xs : List Value}
theorem OwnRows.nil (w : World) (B : Nat) : OwnRows w B (.slice none 0 0) [] [] := ⟨own_nil _ _ _ _, fun i r h => by simp at h, fun i j u u' h => by simp at h⟩
theorem OwnRows.start (h : w.ownsRow B 30 1 v 0 []) : OwnRows w B v [] [] := ⟨h, fun i r h => by simp at h, fun i j u u' h => by simp at h⟩
theorem OwnRows.below (h : OwnRows w B v T xs) (hb : Below w.heap.size w w') : OwnRows w' B v T xs :=
  ⟨own_below h.own hb, fun i r hi => by
    obtain ⟨u, h1, h2⟩ := h.row i r hi
    exact ⟨u, h1, own_below h2 hb⟩, h.ne⟩
theorem OwnRows.kept (h : OwnRows w B v T xs) {q : Nat} (hg : w.grownBy w' (some q)) (hq : q < B) : OwnRows w' B v T xs := by
  have hk : ∀ {e : TypeId} {s n : Nat} {u : Value} {ys : List Value}, w.ownsRow B e s u n ys → w'.ownsRow B e s u n ys := fun {e s n u ys} ho => ho.kept hg (by
    cases hv : u.ownBlock with
    | none => exact Or.inl rfl
    | some k => exact Or.inr (by have := (ho.lt k hv).1; intro e; injection e with e; omega))
  exact ⟨hk h.own, fun i r hi => by
    obtain ⟨u, h1, h2⟩ := h.row i r hi
    exact ⟨u, h1, hk h2⟩, h.ne⟩
theorem OwnRows.set (h : OwnRows w B v T xs) {q j : Nat} {u : Value} (hq : q < B) : OwnRows (w.setCell ⟨q, j, none⟩ u) B v T xs := h.kept (grown_set (World.grownBy.refl _ _)) hq
theorem OwnRows.len (h : OwnRows w B v T xs) : xs.length = T.length := by have := h.own.1; omega
theorem OwnRows.snoc {w2 w3 : World} {u v' : Value} {r : List Bt} {o : Obj} (h : OwnRows w B v T xs) (hB : B ≤ w.heap.size) (hb : Below w.heap.size w w2) (hu : w2.ownsRow w.heap.size 29 6 u r.length (btl r))
    (h3 : w3.ownsRow B 30 1 v' (T.length + 1) (xs ++ [u])) (hg : (w2.alloc o).grownBy w3 v.ownBlock) : OwnRows w3 B v' (T ++ [r]) (xs ++ [u]) := by
  have hl := h.len
  have h2 := h.below hb
  have ho := h2.own.alloc o
  have hne30 : (29 : TypeId) ≠ 30 := by decide
  have hxu : ∀ (i : Nat) (x : Value), xs[i]? = some x → x.ownBlock = none ∨ u.ownBlock = none ∨ x.ownBlock ≠ u.ownBlock := fun i x hx => by
    obtain ⟨r', hr'⟩ := get_of (L := T) (k := i) (by have := len_of hx; omega)
    obtain ⟨x', h1', h2'⟩ := h.row i r' hr'
    rw [hx] at h1'
    injection h1' with h1'
    subst h1'
    cases hxb : x.ownBlock with
    | none => exact Or.inl rfl
    | some k =>
      cases hub : u.ownBlock with
      | none => exact Or.inr (Or.inl rfl)
      | some k' =>
        have a1 := (h2'.lt k hxb).2
        have a2 := (hu.lt k' hub).1
        exact Or.inr (Or.inr (by intro e; injection e with e; omega))
  refine ⟨by rw [List.length_append]; exact h3, fun i s hi => ?_, fun i j x x' hx hx' hij => ?_⟩
  · rcases Nat.lt_or_ge i T.length with hlt | hge
    · rw [List.getElem?_append_left hlt] at hi
      obtain ⟨x, h4, h5⟩ := h2.row i s hi
      exact ⟨x, by rw [List.getElem?_append_left (by omega)]; exact h4, (h5.alloc o).kept hg (own_ne (h5.alloc o) ho hne30)⟩
    · have hi' := len_of hi
      rw [List.length_append] at hi'
      have e : i = T.length := by simp at hi'; omega
      subst e
      rw [List.getElem?_append_right (Nat.le_refl _), Nat.sub_self] at hi
      simp at hi
      subst hi
      refine ⟨u, ?_, ((own_base hu hB).alloc o).kept hg (own_ne ((own_base hu hB).alloc o) ho hne30)⟩
      rw [List.getElem?_append_right (by omega), hl, Nat.sub_self]; rfl
  · have h4 := len_of hx
    have h5 := len_of hx'
    simp at h4 h5
    rcases Nat.lt_or_ge i xs.length with hi | hi
    · rw [List.getElem?_append_left hi] at hx
      rcases Nat.lt_or_ge j xs.length with hj | hj
      · rw [List.getElem?_append_left hj] at hx'
        exact h.ne i j x x' hx hx' hij
      · have e : j = xs.length := by omega
        subst e
        rw [List.getElem?_append_right (Nat.le_refl _), Nat.sub_self] at hx'
        simp at hx'
        subst hx'
        rcases hxu i x hx with h | h | h
        · exact Or.inl h
        · cases hxb : x.ownBlock with
          | none => exact Or.inl rfl
          | some k => exact Or.inr (by rw [h]; simp)
        · exact Or.inr h
    · have e : i = xs.length := by omega
      subst e
      rw [List.getElem?_append_right (Nat.le_refl _), Nat.sub_self] at hx
      simp at hx
      subst hx
      rw [List.getElem?_append_left (by omega)] at hx'
      rcases hxu j x' hx' with h | h | h
      · cases hub : u.ownBlock with
        | none => exact Or.inl rfl
        | some k => exact Or.inr (by rw [h]; simp)
      · exact Or.inl h
      · exact Or.inr fun e => h e.symm
theorem OwnRows.ownT (h : OwnRows w B v T xs) (hB : B ≤ w.heap.size) : ∃ A c g G, v = .slice A T.length c ∧ T.length ≤ c ∧ OwnT w B w.heap.size A T g G := by
  rcases h.own.2 with ⟨hv, h0⟩ | ⟨g, cap, cur, rfl, hg, hh, hc, _⟩
  · have hT : T = [] := List.eq_nil_of_length_eq_zero h0
    subst hT
    exact ⟨none, 0, 0, fun _ => 0, hv, Nat.le_refl _, ⟨fun h => absurd h (by simp), fun h => absurd h (by simp), fun i r h => by simp at h, fun i r h => by simp at h, fun i j r s h => by simp at h⟩⟩
  · have hlt := (Array.getElem?_eq_some_iff.1 hh).1
    have hcell : ∀ (i : Nat) (u : Value), xs[i]? = some u → w.cell? ⟨g, i, none⟩ = some u := fun i u hu => by
      have := len_of hu
      rw [h.own.cellAt i (by have := h.len; omega), hu]
    have hblk : ∀ (i : Nat) (r : List Bt) (u : Value), T[i]? = some r → xs[i]? = some u → 0 < r.length → ∃ gi, u.ownBlock = some gi ∧ gi ≠ g ∧ B ≤ gi ∧ gi < w.heap.size := fun i r u hr hu hn => by
      obtain ⟨u', h1, h2⟩ := h.row i r hr
      rw [hu] at h1
      injection h1 with h1
      subst h1
      rcases h2.2 with ⟨_, h0⟩ | ⟨gi, ci, curi, rfl, hgi, hhi, _⟩
      · omega
      · refine ⟨gi, rfl, fun e => ?_, hgi, (Array.getElem?_eq_some_iff.1 hhi).1⟩
        subst e
        rw [hh] at hhi
        injection hhi with hhi
        injection hhi with _ h3
        exact absurd h3 (by decide)
    refine ⟨_, cap, g, fun i => ((xs[i]?).bind Value.ownBlock).getD 0, rfl, hc, ⟨fun _ => rfl, fun _ => ⟨hg, hlt⟩, fun i r hi => ?_, fun i r hi hn => ?_, fun i j r s hi hj hn hm hij => ?_⟩⟩
    · obtain ⟨u, h1, h2⟩ := h.row i r hi
      have hc' := hcell i u h1
      rcases h2.2 with ⟨rfl, h0⟩ | ⟨gi, ci, curi, rfl, hgi, hhi, _⟩
      · exact ⟨none, 0, by rw [h0]; exact hc', ⟨fun h => by omega, fun k b hk => by have := len_of hk; omega⟩, fun k hk => by omega⟩
      · obtain ⟨A', c', g', e', _, hR, hF, _⟩ := rowB_of_own h2 hB
        injection e' with e1 _ e3
        have hgg : 0 < r.length → g' = gi := fun hn => by
          have := hR.1 hn
          rw [← e1] at this
          injection this with this
          injection this with this
          exact this.symm
        refine ⟨some ⟨gi, 0, none⟩, ci, hc', ?_⟩
        rw [h1]
        show RowB w (some ⟨gi, 0, none⟩) r gi ∧ Free w (r.length * 6) gi
        rcases Nat.eq_zero_or_pos r.length with h0 | h0
        · exact ⟨⟨fun h => by omega, fun k b hk => by have := len_of hk; omega⟩, fun k hk => by omega⟩
        · rw [← hgg h0]; exact ⟨⟨fun _ => by rw [hgg h0], hR.2⟩, hF⟩
    · obtain ⟨u, h1, _⟩ := h.row i r hi
      obtain ⟨gi, h2, h3, h4, h5⟩ := hblk i r u hi h1 hn
      show B ≤ ((xs[i]?).bind Value.ownBlock).getD 0 ∧ ((xs[i]?).bind Value.ownBlock).getD 0 < w.heap.size ∧ ((xs[i]?).bind Value.ownBlock).getD 0 ≠ g
      rw [h1, Option.bind_some, h2]
      exact ⟨h4, h5, h3⟩
    · obtain ⟨u, h1, _⟩ := h.row i r hi
      obtain ⟨u', h1', _⟩ := h.row j s hj
      obtain ⟨gi, h2, _⟩ := hblk i r u hi h1 hn
      obtain ⟨gj, h2', _⟩ := hblk j s u' hj h1' hm
      show ((xs[i]?).bind Value.ownBlock).getD 0 ≠ ((xs[j]?).bind Value.ownBlock).getD 0
      rw [h1, h1', Option.bind_some, Option.bind_some, h2, h2']
      rcases h.ne i j u u' h1 h1' hij with h3 | h3
      · rw [h2] at h3; cases h3
      · rw [h2, h2'] at h3
        exact fun e => h3 (congrArg some e)
end
end Go.Proofs.Ytmfeleocjmdooaa.C1
