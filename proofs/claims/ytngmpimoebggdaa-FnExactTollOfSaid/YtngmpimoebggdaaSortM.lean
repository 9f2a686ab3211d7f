/- The insertion sort, by positions: what each step keeps. -/
import Derived.Test.YtngmpimoebggdaaShareM
namespace Go.Proofs.Ytngmpimoebggdaa.ShareM
set_option linter.unusedVariables false

/-- The first i are in order; the others stand where they stood. -/
structure Pre (r : Nat → Int) (n i : Nat) (D : Nat → Nat) : Prop where
  sorted : ∀ p q, p < q → q < i → Beats r (D p) (D q)
  lt : ∀ p, p < i → D p < i
  onto : ∀ v, v < i → ∃ p, p < i ∧ D p = v
  tail : ∀ p, i ≤ p → p < n → D p = p
/-- The element i is on its way down: it stands at j, all behind it up to i are beaten by it. -/
structure Mid (r : Nat → Int) (n i j : Nat) (D : Nat → Nat) : Prop where
  le : j ≤ i
  at_ : D j = i
  sorted : ∀ p q, p < q → q ≤ i → p ≠ j → q ≠ j → Beats r (D p) (D q)
  behind : ∀ q, j < q → q ≤ i → Beats r i (D q)
  lt : ∀ p, p ≤ i → p ≠ j → D p < i
  onto : ∀ v, v ≤ i → ∃ p, p ≤ i ∧ D p = v
  tail : ∀ p, i < p → p < n → D p = p
theorem Pre.start {r : Nat → Int} {n i : Nat} {D : Nat → Nat} (h : Pre r n i D) (hi : i < n) : Mid r n i i D where
  le := Nat.le_refl _
  at_ := h.tail i (Nat.le_refl _) hi
  sorted := fun p q h1 h2 h3 h4 => h.sorted p q h1 (by omega)
  behind := fun q h1 h2 => by omega
  lt := fun p h1 h2 => h.lt p (by omega)
  onto := fun v hv => by
    rcases Nat.lt_or_ge v i with h1 | h1
    · obtain ⟨p, hp, e⟩ := h.onto v h1
      exact ⟨p, by omega, e⟩
    · obtain rfl : v = i := by omega
      exact ⟨v, Nat.le_refl _, h.tail v (Nat.le_refl _) hi⟩
  tail := fun p h1 h2 => h.tail p (by omega) h2
def swap (D : Nat → Nat) (j : Nat) (p : Nat) : Nat := if p = j then D (j + 1) else if p = j + 1 then D j else D p
theorem Mid.step {r : Nat → Int} {n i j : Nat} {D : Nat → Nat} (h : Mid r n i (j + 1) D) (hr : r (D j) < r i) : Mid r n i j (swap D j) := by
  have e0 : swap D j j = i := by unfold swap; rw [if_pos rfl]; exact h.at_
  have e1 : swap D j (j + 1) = D j := by unfold swap; rw [if_neg (by omega), if_pos rfl]
  have e2 : ∀ p, p ≠ j → p ≠ j + 1 → swap D j p = D p := fun p h1 h2 => by unfold swap; rw [if_neg h1, if_neg h2]
  have hle := h.le
  refine ⟨by omega, e0, fun p q h1 h2 h3 h4 => ?_, fun q h1 h2 => ?_, fun p h1 h2 => ?_, fun v hv => ?_, fun p h1 h2 => ?_⟩
  · by_cases a : p = j + 1
    · subst a
      rw [e1, e2 q h4 (by omega)]
      exact h.sorted j q (by omega) h2 (by omega) (by omega)
    · by_cases b : q = j + 1
      · subst b
        rw [e1, e2 p h3 a]
        exact h.sorted p j (by omega) (by omega) a (by omega)
      · rw [e2 p h3 a, e2 q h4 b]
        exact h.sorted p q h1 h2 a b
  · by_cases b : q = j + 1
    · subst b; rw [e1]; exact Or.inl hr
    · rw [e2 q (by omega) b]; exact h.behind q (by omega) h2
  · by_cases a : p = j + 1
    · subst a; rw [e1]; exact h.lt j (by omega) (by omega)
    · rw [e2 p h2 a]; exact h.lt p h1 a
  · obtain ⟨p, hp, e⟩ := h.onto v hv
    by_cases a : p = j + 1
    · subst a; exact ⟨j, by omega, by rw [e0, ← h.at_]; exact e⟩
    · by_cases b : p = j
      · subst b; exact ⟨p + 1, by omega, by rw [e1]; exact e⟩
      · exact ⟨p, hp, by rw [e2 p b a]; exact e⟩
  · rw [e2 p (by omega) (by omega)]; exact h.tail p h1 h2
theorem Mid.stop {r : Nat → Int} {n i j : Nat} {D : Nat → Nat} (h : Mid r n i j D) (hs : j = 0 ∨ ∃ k, j = k + 1 ∧ r i ≤ r (D k)) : Pre r n (i + 1) D := by
  have hle := h.le
  have hb : ∀ p, p < j → Beats r (D p) i := by
    intro p hp
    rcases hs with h0 | ⟨k, rfl, hk⟩
    · omega
    · have hkk : Beats r (D k) i := by
        have := h.lt k (by omega) (by omega)
        unfold Beats; omega
      by_cases e : p = k
      · rw [e]; exact hkk
      · exact beats_trans (h.sorted p k (by omega) (by omega) (by omega) (by omega)) hkk
  refine ⟨fun p q h1 h2 => ?_, fun p h1 => ?_, fun v hv => ?_, fun p h1 h2 => h.tail p (by omega) h2⟩
  · by_cases a : p = j
    · subst a; rw [h.at_]; exact h.behind q h1 (by omega)
    · by_cases b : q = j
      · subst b; rw [h.at_]; exact hb p h1
      · exact h.sorted p q h1 (by omega) a b
  · by_cases a : p = j
    · subst a; rw [h.at_]; omega
    · have := h.lt p (by omega) a; omega
  · obtain ⟨p, hp, e⟩ := h.onto v (by omega)
    exact ⟨p, by omega, e⟩
theorem Pre.ord {r : Nat → Int} {n : Nat} {D : Nat → Nat} (h : Pre r n n D) : Ord r n D := ⟨h.sorted, h.lt, h.onto⟩
theorem pre_one (r : Nat → Int) (n : Nat) : Pre r n 1 (fun p => p) where
  sorted := fun p q h1 h2 => by omega
  lt := fun p h => h
  onto := fun v h => ⟨v, h, rfl⟩
  tail := fun p _ _ => rfl
theorem pre_zero (r : Nat → Int) (n : Nat) : Pre r n 0 (fun p => p) where
  sorted := fun p q h1 h2 => by omega
  lt := fun p h => h
  onto := fun v h => ⟨v, h, rfl⟩
  tail := fun p _ _ => rfl
theorem Mid.at_lt {r : Nat → Int} {n i j : Nat} {D : Nat → Nat} (h : Mid r n i j D) (hi : i < n) {p : Nat} (hp : p < n) : D p < n := by
  rcases Nat.lt_or_ge i p with h1 | h1
  · rw [h.tail p h1 hp]; exact hp
  · by_cases e : p = j
    · subst e; rw [h.at_]; exact hi
    · have := h.lt p h1 e; omega
end Go.Proofs.Ytngmpimoebggdaa.ShareM
