/- A copy of a train, its rows as rows of one's own; two such trains joined. -/
import Derived.Test.YtacnjipmojlpnaaTrC
namespace Go.Proofs.Ytacnjipmojlpnaa.C1
open Go.ChangeShapes Go.WideShapes Go.ChangeAt Go.RowKit
set_option linter.unusedVariables false

theorem OwnRows.wide {w : World} {B B' : Nat} {v : Value} {T : List (List Bt)} {xs : List Value} (h : OwnRows w B v T xs) (hB : B' ≤ B) : OwnRows w B' v T xs :=
  ⟨own_base h.own hB, fun i r hi => by
    obtain ⟨u, h1, h2⟩ := h.row i r hi
    exact ⟨u, h1, own_base h2 hB⟩, h.ne⟩
def GivesO (w : World) (up : Bool) (T : List (List Bt)) (e : Ending) (w' : World) : Prop :=
  (∃ v xs, e = .returned (.agg #[.bool up, v]) ∧ OwnRows w' w.heap.size v T xs) ∧ Below w.heap.size w w'
theorem OwnRows.blk {w : World} {B : Nat} {v : Value} {T : List (List Bt)} {xs : List Value} (h : OwnRows w B v T xs) {i : Nat} {x : Value} {k : Nat} (hx : xs[i]? = some x) (hk : x.ownBlock = some k) : B ≤ k ∧ k < w.heap.size := by
  obtain ⟨r, hr⟩ := get_of (L := T) (k := i) (by have := len_of hx; have := h.len; omega)
  obtain ⟨x', h1, h2⟩ := h.row i r hr
  rw [hx] at h1
  injection h1 with h1
  subst h1
  exact h2.lt k hk
theorem OwnRows.join {w1 w2 w3 : World} {B : Nat} {v1 v2 v' : Value} {T1 T2 : List (List Bt)} {xs1 xs2 : List Value} (h1 : OwnRows w1 B v1 T1 xs1) (hB : B ≤ w1.heap.size) (hb : Below w1.heap.size w1 w2) (h2 : OwnRows w2 w1.heap.size v2 T2 xs2)
    (h3 : w3.ownsRow B 40 1 v' (T1.length + T2.length) (xs1 ++ xs2)) (hg : w2.grownBy w3 v1.ownBlock) : OwnRows w3 B v' (T1 ++ T2) (xs1 ++ xs2) := by
  have hl1 := h1.len
  have h12 := h1.below hb
  have hne30 : (39 : TypeId) ≠ 40 := by decide
  have mix : ∀ (i j : Nat) (x y : Value), xs1[i]? = some x → xs2[j]? = some y → (x.ownBlock = none ∨ x.ownBlock ≠ y.ownBlock) ∧ (y.ownBlock = none ∨ y.ownBlock ≠ x.ownBlock) := fun i j x y hx hy => by
    cases hxb : x.ownBlock with
    | none => refine ⟨Or.inl rfl, ?_⟩; cases hyb : y.ownBlock with
      | none => exact Or.inl rfl
      | some k => exact Or.inr (by simp)
    | some k =>
      cases hyb : y.ownBlock with
      | none => exact ⟨Or.inr (by simp), Or.inl rfl⟩
      | some k' =>
        have a1 := (h1.blk hx hxb).2
        have a2 := (h2.blk hy hyb).1
        exact ⟨Or.inr (by intro e; injection e with e; omega), Or.inr (by intro e; injection e with e; omega)⟩
  refine ⟨by rw [List.length_append]; exact h3, fun i r hi => ?_, fun i j x y hx hy hij => ?_⟩
  · rcases Nat.lt_or_ge i T1.length with hlt | hge
    · rw [List.getElem?_append_left hlt] at hi
      obtain ⟨x, h4, h5⟩ := h12.row i r hi
      exact ⟨x, by rw [List.getElem?_append_left (by omega)]; exact h4, h5.kept hg (own_ne h5 h12.own hne30)⟩
    · rw [List.getElem?_append_right hge] at hi
      obtain ⟨x, h4, h5⟩ := h2.row _ r hi
      exact ⟨x, by rw [List.getElem?_append_right (by omega), hl1]; exact h4, (own_base h5 hB).kept hg (own_ne h5 h12.own hne30)⟩
  · rcases Nat.lt_or_ge i xs1.length with hi | hi
    · rw [List.getElem?_append_left hi] at hx
      rcases Nat.lt_or_ge j xs1.length with hj | hj
      · rw [List.getElem?_append_left hj] at hy
        exact h1.ne i j x y hx hy hij
      · rw [List.getElem?_append_right hj] at hy
        exact (mix i _ x y hx hy).1
    · rw [List.getElem?_append_right hi] at hx
      rcases Nat.lt_or_ge j xs1.length with hj | hj
      · rw [List.getElem?_append_left hj] at hy
        exact (mix j _ y x hy hx).2
      · rw [List.getElem?_append_right hj] at hy
        exact h2.ne _ _ x y hx hy (by omega)
end Go.Proofs.Ytacnjipmojlpnaa.C1
