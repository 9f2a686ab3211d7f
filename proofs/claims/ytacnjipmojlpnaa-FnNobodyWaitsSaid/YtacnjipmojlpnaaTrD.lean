/- Trains coupled: of the model and of the program. -/
import Derived.Test.YtacnjipmojlpnaaTrCo
import Derived.Test.YtacnjipmojlpnaaTrDv
import Derived.Test.YtacnjipmojlpnaaTrLw
import Derived.Deep.RegionLaw
namespace Go.Proofs.Ytacnjipmojlpnaa.C1
open Go.ChangeShapes Go.WideShapes Go.ChangeAt Go.RowKit
set_option linter.unusedVariables false

/-- What coupling gives. -/
def couB (u1 u2 : Bool) (T1 T2 : List (List Bt)) : Bool := tOk T1 && (tOk T2 && (tOk (T1 ++ T2) && (u1 == u2)))
def couT (u1 u2 : Bool) (T1 T2 : List (List Bt)) : List (List Bt) := if couB u1 u2 T1 T2 = true then T1 ++ T2 else []
def couU (u1 u2 : Bool) (T1 T2 : List (List Bt)) : Bool := if couB u1 u2 T1 T2 = true then u1 else false
/-- What a function that gives a train and a bool leaves. -/
def GivesTB (w : World) (up : Bool) (T : List (List Bt)) (ok : Bool) (e : Ending) (w' : World) : Prop :=
  (∃ A c g G, e = .returned (.tuple #[.agg #[.bool up, .slice A T.length c], .bool ok]) ∧ T.length ≤ c ∧ OwnT w' w.heap.size w'.heap.size A T g G) ∧ Below w.heap.size w w'
theorem OwnRows.ones {w : World} {B : Nat} {v : Value} {T : List (List Bt)} {xs : List Value} (h : OwnRows w B v T xs) : ∀ u ∈ xs, u.oneCell' = true := fun u hu => by
  obtain ⟨i, hi⟩ := List.getElem?_of_mem hu
  obtain ⟨r, hr⟩ := get_of (L := T) (k := i) (by have := len_of hi; have := h.len; omega)
  obtain ⟨x, h1, h2⟩ := h.row i r hr
  rw [hi] at h1
  injection h1 with h1
  subst h1
  exact own_one h2
theorem OwnRows.setOther {w : World} {B : Nat} {v : Value} {T : List (List Bt)} {xs : List Value} (h : OwnRows w B v T xs) {p j : Nat} {u : Value} {cs : Array Value} {t : TypeId} {fr : Nat × Nat} (hp : w.heap[p]? = some (.cells cs t fr))
    (h1 : (39 : TypeId) ≠ t) (h2 : (40 : TypeId) ≠ t) : OwnRows (w.setCell ⟨p, j, none⟩ u) B v T xs := by
  have hk : ∀ {e : TypeId} {s n : Nat} {x : Value} {ys : List Value}, e ≠ t → w.ownsRow B e s x n ys → (w.setCell ⟨p, j, none⟩ u).ownsRow B e s x n ys := fun {e s n x ys} he ho => ho.kept (grown_set (World.grownBy.refl _ (some p))) (by
    rcases ho.2 with ⟨rfl, _⟩ | ⟨g, cap, cur, rfl, _, hg, _⟩
    · exact Or.inl rfl
    · refine Or.inr fun e' => ?_
      simp only [Value.ownBlock, Option.some.injEq] at e'
      subst e'
      rw [hg] at hp
      injection hp with hp
      injection hp with _ h3
      exact he h3)
  exact ⟨hk h2 h.own, fun i r hi => by
    obtain ⟨x, h3, h4⟩ := h.row i r hi
    exact ⟨x, h3, hk h1 h4⟩, h.ne⟩
theorem cou_yes {u1 u2 : Bool} {T1 T2 : List (List Bt)} (h : couB u1 u2 T1 T2 = true) {w w1 w' : World} {V : Option Addr} {d : Nat} {xs : List Value} (hb : Below w.heap.size w w1)
    (ho : OwnRows w1 (w.heap.size + 3) (.slice V (T1.length + T2.length) d) (T1 ++ T2) xs) (t : Touch w1 w' (w.heap.size + 2) (w.heap.size + 3)) :
    GivesTB w (couU u1 u2 T1 T2) (couT u1 u2 T1 T2) (couB u1 u2 T1 T2) (.returned (.tuple #[.agg #[.bool u1, .slice V (T1.length + T2.length) d], .bool true])) w' := by
  have e1 : couU u1 u2 T1 T2 = u1 := by unfold couU; rw [if_pos h]
  have e2 : couT u1 u2 T1 T2 = T1 ++ T2 := by unfold couT; rw [if_pos h]
  rw [h, e1, e2]
  have hq : w.heap.size + 3 ≤ w1.heap.size ∨ (T1 ++ T2).length = 0 := by
    rcases ho.own.2 with ⟨_, h0⟩ | ⟨g, _, _, _, hg, hh, _⟩
    · exact Or.inr h0
    · exact Or.inl (by have := (Array.getElem?_eq_some_iff.1 hh).1; omega)
  rcases hq with hq | hq
  · obtain ⟨A, c, g, G, e, hc, hT⟩ := ho.ownT hq
    injection e with e1' e2' e3'
    refine ⟨⟨A, c, g, G, by rw [e1', e2', e3'], hc, (hT.touch t (Or.inr (Nat.le_refl _))).wide (by omega) t.size⟩, t.below hb (by omega)⟩
  · have hn : T1 ++ T2 = [] := List.eq_nil_of_length_eq_zero hq
    rcases ho.own.2 with ⟨e, h0⟩ | ⟨g, c, cur, e, _, _, hc, _⟩
    · injection e with e1' e2' e3'
      rw [hn]
      exact ⟨⟨none, 0, 0, fun _ => 0, by rw [e1', e2', e3']; rfl, Nat.le_refl _, OwnT.nil _ _ _ _ _ _⟩, t.below hb (by omega)⟩
    · injection e with e1' e2' e3'
      rw [hn]
      rw [hn] at e2' hc
      exact ⟨⟨_, c, 0, fun _ => 0, by rw [e1', e2', e3'], Nat.zero_le _, OwnT.nil _ _ _ _ _ _⟩, t.below hb (by omega)⟩
theorem cou_no {u1 u2 : Bool} {T1 T2 : List (List Bt)} (h : couB u1 u2 T1 T2 = false) {w w' : World} (hb : Below w.heap.size w w') :
    GivesTB w (couU u1 u2 T1 T2) (couT u1 u2 T1 T2) (couB u1 u2 T1 T2) (.returned (.tuple #[.agg #[.bool false, .slice none 0 0], .bool false])) w' := by
  have e1 : couU u1 u2 T1 T2 = false := by unfold couU; rw [h]; rfl
  have e2 : couT u1 u2 T1 T2 = [] := by unfold couT; rw [h]; rfl
  rw [h, e1, e2]
  exact ⟨⟨none, 0, 0, fun _ => 0, rfl, Nat.le_refl _, OwnT.nil _ _ _ _ _ _⟩, hb⟩
end Go.Proofs.Ytacnjipmojlpnaa.C1
