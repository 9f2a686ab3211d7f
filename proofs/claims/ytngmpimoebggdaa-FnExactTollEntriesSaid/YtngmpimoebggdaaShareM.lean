/- The plain mathematics of shares: sums, the order of remainders, and the elements that get one more. -/
namespace Go.Proofs.Ytngmpimoebggdaa.ShareM
set_option linter.unusedVariables false

def sumTo (f : Nat → Int) : Nat → Int
  | 0 => 0
  | n + 1 => sumTo f n + f n
theorem sum_congr {f g : Nat → Int} : ∀ {n : Nat}, (∀ i, i < n → f i = g i) → sumTo f n = sumTo g n
  | 0, _ => rfl
  | n + 1, h => by unfold sumTo; rw [sum_congr (fun i hi => h i (by omega)), h n (by omega)]
theorem sum_le {f g : Nat → Int} : ∀ {n : Nat}, (∀ i, i < n → f i ≤ g i) → sumTo f n ≤ sumTo g n
  | 0, _ => Int.le_refl _
  | n + 1, h => by
    unfold sumTo
    have := sum_le (n := n) (fun i hi => h i (by omega))
    have := h n (by omega)
    omega
theorem sum_add (f g : Nat → Int) : ∀ n, sumTo (fun i => f i + g i) n = sumTo f n + sumTo g n
  | 0 => rfl
  | n + 1 => by unfold sumTo; rw [sum_add f g n]; omega
theorem sum_mul (c : Int) (f : Nat → Int) : ∀ n, sumTo (fun i => c * f i) n = c * sumTo f n
  | 0 => by simp [sumTo]
  | n + 1 => by unfold sumTo; rw [sum_mul c f n, Int.mul_add]
theorem sum_const (c : Int) : ∀ n : Nat, sumTo (fun _ => c) n = n * c
  | 0 => by simp [sumTo]
  | n + 1 => by unfold sumTo; rw [sum_const c n, Int.natCast_add, Int.add_mul]; simp
theorem sum_nonneg {f : Nat → Int} {n : Nat} (h : ∀ i, i < n → 0 ≤ f i) : 0 ≤ sumTo f n := by
  have := sum_le (f := fun _ => 0) (g := f) (n := n) h
  rw [sum_const] at this
  simpa using this
theorem sum_bd {f : Nat → Int} {n : Nat} {c : Int} (h : ∀ i, i < n → f i ≤ c) : sumTo f n ≤ n * c := by
  have := sum_le (f := f) (g := fun _ => c) (n := n) h
  rwa [sum_const] at this
theorem sum_mono {f : Nat → Int} {k n : Nat} (hkn : k ≤ n) (h : ∀ i, i < n → 0 ≤ f i) : sumTo f k ≤ sumTo f n := by
  induction n with
  | zero => obtain rfl : k = 0 := by omega
            exact Int.le_refl _
  | succ n ih =>
    rcases Nat.lt_or_ge k (n + 1) with h1 | h1
    · have := ih (by omega) (fun i hi => h i (by omega))
      have := h n (by omega)
      show _ ≤ sumTo f n + f n
      omega
    · obtain rfl : k = n + 1 := by omega
      exact Int.le_refl _
theorem one_le_sum {f : Nat → Int} {n i : Nat} (h : ∀ j, j < n → 0 ≤ f j) (hi : i < n) : f i ≤ sumTo f n := by
  have h1 := sum_mono (f := f) (k := i + 1) (n := n) (by omega) h
  have h2 := sum_nonneg (f := f) (n := i) (fun j hj => h j (by omega))
  have e : sumTo f (i + 1) = sumTo f i + f i := rfl
  rw [e] at h1
  omega
theorem sum_bump {f g : Nat → Int} {a : Nat} : ∀ {n : Nat}, a < n → (∀ i, i < n → i ≠ a → g i = f i) → g a = f a + 1 → sumTo g n = sumTo f n + 1
  | 0, h, _, _ => by omega
  | n + 1, h, h1, h2 => by
    unfold sumTo
    by_cases e : a = n
    · subst e
      rw [sum_congr (f := g) (g := f) (fun i hi => h1 i (by omega) (by omega)), h2]; omega
    · rw [sum_bump (by omega : a < n) (fun i hi => h1 i (by omega)) h2, h1 n (by omega) (by omega)]; omega

/-! Exact parts. -/
def quo (total S : Int) (W : Nat → Int) (i : Nat) : Int := total * W i / S
def rem (total S : Int) (W : Nat → Int) (i : Nat) : Int := total * W i % S
def left (total S : Int) (W : Nat → Int) (n : Nat) : Int := total - sumTo (quo total S W) n
/-- What is asked of the arguments. -/
structure Fine (total : Int) (n : Nat) (W : Nat → Int) : Prop where
  t0 : 0 ≤ total
  t1 : total ≤ 1000000000
  n12 : n ≤ 12
  w : ∀ i, i < n → 0 ≤ W i ∧ W i ≤ 1000000
  s : 0 < sumTo W n
theorem part (total : Int) (n : Nat) (W : Nat → Int) (i : Nat) : total * W i = sumTo W n * quo total (sumTo W n) W i + rem total (sumTo W n) W i := (Int.mul_ediv_add_emod _ _).symm
theorem left_rem (total : Int) (n : Nat) (W : Nat → Int) : left total (sumTo W n) W n * sumTo W n = sumTo (rem total (sumTo W n) W) n := by
  have h1 : total * sumTo W n = sumTo W n * sumTo (quo total (sumTo W n) W) n + sumTo (rem total (sumTo W n) W) n := by
    rw [← sum_mul, ← sum_mul, ← sum_add]
    exact sum_congr (fun i _ => part total n W i)
  unfold left
  rw [Int.sub_mul, h1, Int.mul_comm (sumTo (quo total (sumTo W n) W) n)]
  omega
section
variable {total : Int} {n : Nat} {W : Nat → Int} (F : Fine total n W)
include F
theorem prod_bd {i : Nat} (hi : i < n) : 0 ≤ total * W i ∧ total * W i ≤ 1000000000000000 := by
  obtain ⟨h0, h1⟩ := F.w i hi
  have t0 := F.t0; have t1 := F.t1
  have := Int.mul_le_mul t1 h1 h0 (by omega)
  exact ⟨Int.mul_nonneg t0 h0, by omega⟩
theorem rem_bd {i : Nat} (hi : i < n) : 0 ≤ rem total (sumTo W n) W i ∧ rem total (sumTo W n) W i < sumTo W n :=
  ⟨Int.emod_nonneg _ (by have := F.s; omega), Int.emod_lt_of_pos _ F.s⟩
theorem sum_bd12 : sumTo W n ≤ 12000000 := by
  have := sum_bd (f := W) (n := n) (c := 1000000) (fun i hi => (F.w i hi).2)
  have := F.n12
  omega
theorem quo_bd {i : Nat} (hi : i < n) : 0 ≤ quo total (sumTo W n) W i ∧ quo total (sumTo W n) W i ≤ 1000000000 := by
  have s0 := F.s
  refine ⟨Int.ediv_nonneg (prod_bd F hi).1 (by omega), ?_⟩
  have h1 := one_le_sum (f := W) (fun j hj => (F.w j hj).1) hi
  have h2 : total * W i ≤ total * sumTo W n := Int.mul_le_mul_of_nonneg_left h1 F.t0
  have h3 : quo total (sumTo W n) W i ≤ total * sumTo W n / sumTo W n := Int.ediv_le_ediv s0 h2
  rw [Int.mul_ediv_cancel _ (by omega)] at h3
  have := F.t1
  omega
theorem left_bd : 0 ≤ left total (sumTo W n) W n ∧ left total (sumTo W n) W n ≤ n := by
  have s0 := F.s
  have h := left_rem total n W
  have h0 := sum_nonneg (f := rem total (sumTo W n) W) (n := n) (fun i hi => (rem_bd F hi).1)
  have h1 := sum_bd (f := rem total (sumTo W n) W) (n := n) (c := sumTo W n) (fun i hi => by have := (rem_bd F hi).2; omega)
  rw [← h] at h0 h1
  exact ⟨by
    refine Int.not_lt.1 fun hn => ?_
    have := Int.mul_neg_of_neg_of_pos hn s0
    omega, Int.le_of_mul_le_mul_right h1 s0⟩
theorem part_sum_bd {k : Nat} (hk : k ≤ n) : 0 ≤ sumTo (quo total (sumTo W n) W) k ∧ sumTo (quo total (sumTo W n) W) k ≤ 12000000000 := by
  have h0 := sum_nonneg (f := quo total (sumTo W n) W) (n := k) (fun i hi => (quo_bd F (by omega)).1)
  have h1 := sum_bd (f := quo total (sumTo W n) W) (n := k) (c := 1000000000) (fun i hi => (quo_bd F (by omega)).2)
  have := F.n12
  exact ⟨h0, by omega⟩
end

/-! The order of the remainders: the greatest first, of equal ones the least index first. -/
def Beats (r : Nat → Int) (i j : Nat) : Prop := r j < r i ∨ (r i = r j ∧ i < j)
theorem beats_trans {r : Nat → Int} {i j k : Nat} (h1 : Beats r i j) (h2 : Beats r j k) : Beats r i k := by unfold Beats at *; omega
theorem beats_asymm {r : Nat → Int} {i j : Nat} (h1 : Beats r i j) (h2 : Beats r j i) : False := by unfold Beats at *; omega
/-- D lists the indices in this order. -/
structure Ord (r : Nat → Int) (n : Nat) (D : Nat → Nat) : Prop where
  sorted : ∀ p q, p < q → q < n → Beats r (D p) (D q)
  lt : ∀ p, p < n → D p < n
  onto : ∀ v, v < n → ∃ p, p < n ∧ D p = v
/-- E chooses, L times, an index that beats all that are left. -/
structure Sel (r : Nat → Int) (n L : Nat) (E : Nat → Nat) : Prop where
  lt : ∀ t, t < L → E t < n
  new : ∀ s t, s < t → t < L → E s ≠ E t
  best : ∀ t, t < L → ∀ j, j < n → (∀ s, s ≤ t → E s ≠ j) → Beats r (E t) j
theorem Ord.inj {r : Nat → Int} {n : Nat} {D : Nat → Nat} (h : Ord r n D) {p q : Nat} (hp : p < n) (hq : q < n) (e : D p = D q) : p = q := by
  rcases Nat.lt_trichotomy p q with h1 | h1 | h1
  · have := h.sorted p q h1 hq; rw [e] at this; exact (beats_asymm this this).elim
  · exact h1
  · have := h.sorted q p h1 hp; rw [e] at this; exact (beats_asymm this this).elim
theorem Ord.sel {r : Nat → Int} {n L : Nat} {D : Nat → Nat} (h : Ord r n D) (hL : L ≤ n) : Sel r n L D := by
  refine ⟨fun t ht => h.lt t (by omega), fun s t hst ht e => by have := h.inj (by omega) (by omega) e; omega, fun t ht j hj hn => ?_⟩
  obtain ⟨p, hp, rfl⟩ := h.onto j hj
  rcases Nat.lt_or_ge t p with h1 | h1
  · exact h.sorted t p h1 hp
  · exact absurd rfl (hn p h1)
theorem Sel.same {r : Nat → Int} {n L : Nat} {D E : Nat → Nat} (hD : Sel r n L D) (hE : Sel r n L E) : ∀ t, t < L → D t = E t := by
  intro t
  induction t using Nat.strongRecOn with
  | _ t ih =>
    intro ht
    refine Classical.byContradiction fun hne => ?_
    have h1 := hD.best t ht (E t) (hE.lt t ht) (fun s hs => by
      rcases Nat.lt_or_ge s t with h | h
      · rw [ih s h (by omega)]; exact hE.new s t h ht
      · obtain rfl : s = t := by omega
        exact hne)
    have h2 := hE.best t ht (D t) (hD.lt t ht) (fun s hs => by
      rcases Nat.lt_or_ge s t with h | h
      · rw [← ih s h (by omega)]; exact hD.new s t h ht
      · obtain rfl : s = t := by omega
        exact fun e => hne e.symm)
    exact beats_asymm h1 h2
/-- Was i among the first t? -/
def inc (E : Nat → Nat) : Nat → Nat → Int
  | 0, _ => 0
  | t + 1, i => if E t = i then 1 else inc E t i
theorem inc_succ (E : Nat → Nat) (t i : Nat) : inc E (t + 1) i = if E t = i then 1 else inc E t i := rfl
theorem inc_01 (E : Nat → Nat) (t i : Nat) : inc E t i = 0 ∨ inc E t i = 1 := by
  induction t with
  | zero => exact Or.inl rfl
  | succ t ih => unfold inc; split; exact Or.inr rfl; exact ih
theorem inc_no {E : Nat → Nat} {t i : Nat} (h : ∀ s, s < t → E s ≠ i) : inc E t i = 0 := by
  induction t with
  | zero => rfl
  | succ t ih => unfold inc; rw [if_neg (h t (by omega))]; exact ih (fun s hs => h s (by omega))
theorem inc_zero {E : Nat → Nat} {t i : Nat} (h : inc E t i = 0) : ∀ s, s < t → E s ≠ i := by
  induction t with
  | zero => intro s hs; omega
  | succ t ih =>
    unfold inc at h
    split at h
    · cases h
    · rename_i hne
      intro s hs
      rcases Nat.lt_or_ge s t with h1 | h1
      · exact ih h s h1
      · obtain rfl : s = t := by omega
        exact hne
theorem inc_same {D E : Nat → Nat} {L : Nat} (h : ∀ t, t < L → D t = E t) : ∀ t, t ≤ L → ∀ i, inc D t i = inc E t i := by
  intro t
  induction t with
  | zero => intro _ i; rfl
  | succ t ih => intro ht i; unfold inc; rw [h t (by omega), ih (by omega)]
theorem inc_sum {r : Nat → Int} {n L : Nat} {E : Nat → Nat} (h : ∀ t, t < L → E t < n) (hn : ∀ s t, s < t → t < L → E s ≠ E t) : ∀ t, t ≤ L → sumTo (inc E t) n = t := by
  intro t
  induction t with
  | zero => intro _; exact (sum_const 0 n).trans (by simp)
  | succ t ih =>
    intro ht
    rw [sum_bump (f := inc E t) (a := E t) (h t (by omega)) (fun i hi hne => by rw [inc_succ, if_neg (fun e => hne e.symm)]) (by
      rw [inc_no (t := t) (fun s hs => hn s t hs (by omega))]
      show (if E t = E t then (1 : Int) else _) = _
      rw [if_pos rfl]; rfl), ih (by omega)]
    omega
theorem some_free {r : Nat → Int} {n t : Nat} {E : Nat → Nat} (h : ∀ s, s < t → E s < n) (hn : ∀ s u, s < u → u < t → E s ≠ E u) (ht : t < n) : ∃ i, i < n ∧ inc E t i = 0 := by
  refine Classical.byContradiction fun hc => ?_
  have h1 : ∀ i, i < n → inc E t i = 1 := fun i hi => by
    rcases inc_01 E t i with h | h
    · exact absurd ⟨i, hi, h⟩ hc
    · exact h
  have h2 := inc_sum (r := r) h hn t (Nat.le_refl _)
  rw [sum_congr (g := fun _ => 1) h1, sum_const] at h2
  omega
/-- What is left of the remainders when the first t are struck out. -/
def rest (r : Nat → Int) (E : Nat → Nat) (t i : Nat) : Int := if inc E t i = 1 then -1 else r i
theorem rest_succ (r : Nat → Int) (E : Nat → Nat) (t i : Nat) : rest r E (t + 1) i = if i = E t then -1 else rest r E t i := by
  unfold rest
  rw [inc_succ]
  by_cases h : E t = i
  · rw [if_pos h, if_pos rfl, if_pos h.symm]
  · rw [if_neg h, if_neg (show ¬ i = E t from fun e => h e.symm)]
theorem inc_congr {D E : Nat → Nat} {t : Nat} (h : ∀ s, s < t → D s = E s) (i : Nat) : inc D t i = inc E t i := inc_same (L := t) h t (Nat.le_refl _) i
/-- The first of the greatest that are left comes next. -/
theorem sel_next {r : Nat → Int} {n t b : Nat} {E : Nat → Nat} (hr : ∀ i, i < n → 0 ≤ r i) (h : Sel r n t E) (ht : t < n) (hb : b < n) (h1 : ∀ j, j < n → rest r E t j ≤ rest r E t b) (h2 : ∀ j, j < b → rest r E t j < rest r E t b) :
    Sel r n (t + 1) (fun s => if s = t then b else E s) := by
  obtain ⟨i, hi, hi0⟩ := some_free (r := r) h.lt h.new ht
  have hbi := h1 i hi
  have e0 : rest r E t i = r i := by unfold rest; rw [hi0]; rfl
  have hb0 : inc E t b = 0 := by
    rcases inc_01 E t b with h3 | h3
    · exact h3
    · have : rest r E t b = -1 := by unfold rest; rw [h3]; rfl
      have := hr i hi
      omega
  have eb : rest r E t b = r b := by unfold rest; rw [hb0]; rfl
  have hnew := inc_zero hb0
  refine ⟨fun s hs => ?_, fun s u hsu hu => ?_, fun s hs j hj hn => ?_⟩
  · by_cases e : s = t
    · simp [e, hb]
    · simp [e]; exact h.lt s (by omega)
  · by_cases e : u = t
    · subst e
      simp [show s ≠ u by omega]
      exact hnew s hsu
    · simp [e, show s ≠ t by omega]
      exact h.new s u hsu (by omega)
  · by_cases e : s = t
    · subst e
      simp only [if_pos]
      have hnj : ∀ u, u < s → E u ≠ j := fun u hu => by
        have := hn u (by omega)
        simpa [show u ≠ s by omega] using this
      have hbj : b ≠ j := by have := hn s (Nat.le_refl _); simpa using this
      have ej : rest r E s j = r j := by unfold rest; rw [inc_no hnj]; rfl
      have a1 := h1 j hj
      rw [ej, eb] at a1
      unfold Beats
      rcases Nat.lt_or_ge j b with h3 | h3
      · have a2 := h2 j h3
        rw [ej, eb] at a2
        exact Or.inl a2
      · omega
    · simp [e]
      exact h.best s (by omega) j hj (fun u hu => by have := hn u hu; simpa [show u ≠ t by omega] using this)
theorem sel_keep {r : Nat → Int} {t b : Nat} {E : Nat → Nat} (i : Nat) : inc (fun s => if s = t then b else E s) t i = inc E t i := inc_congr (fun s hs => by simp [show s ≠ t by omega]) i
/-- The shares. -/
def share (total : Int) (n : Nat) (W : Nat → Int) (E : Nat → Nat) (i : Nat) : Int := quo total (sumTo W n) W i + inc E (left total (sumTo W n) W n).toNat i
theorem share_sum {total : Int} {n : Nat} {W : Nat → Int} {E : Nat → Nat} (F : Fine total n W) (h : Sel (rem total (sumTo W n) W) n (left total (sumTo W n) W n).toNat E) : sumTo (share total n W E) n = total := by
  have h1 := inc_sum (r := rem total (sumTo W n) W) h.lt h.new _ (Nat.le_refl _)
  have h2 := left_bd F
  show sumTo (fun i => quo total (sumTo W n) W i + inc E (left total (sumTo W n) W n).toNat i) n = total
  rw [sum_add, h1]
  have h3 : left total (sumTo W n) W n = total - sumTo (quo total (sumTo W n) W) n := rfl
  omega
theorem share_near {total : Int} {n : Nat} {W : Nat → Int} {E : Nat → Nat} (F : Fine total n W) (h : Sel (rem total (sumTo W n) W) n (left total (sumTo W n) W n).toNat E) {i : Nat} (hi : i < n) :
    share total n W E i * sumTo W n - total * W i < sumTo W n ∧ - sumTo W n < share total n W E i * sumTo W n - total * W i := by
  have s0 := F.s
  have hp := part total n W i
  have hr := rem_bd F hi
  have hL := left_bd F
  have hs : share total n W E i * sumTo W n = sumTo W n * quo total (sumTo W n) W i + inc E (left total (sumTo W n) W n).toNat i * sumTo W n := by
    unfold share; rw [Int.add_mul, Int.mul_comm (quo total (sumTo W n) W i)]
  rw [hs, hp]
  rcases inc_01 E (left total (sumTo W n) W n).toNat i with h0 | h0
  · rw [h0, Int.zero_mul]; omega
  · rw [h0, Int.one_mul]
    refine ⟨?_, by omega⟩
    have hpos : 0 < rem total (sumTo W n) W i := by
      refine Classical.byContradiction fun hc => ?_
      have hz : rem total (sumTo W n) W i = 0 := by omega
      -- i was chosen; all that were not chosen are beaten by it
      have hfree : ∀ j, j < n → inc E (left total (sumTo W n) W n).toNat j = 0 → rem total (sumTo W n) W j ≤ 0 := by
        intro j hj hj0
        obtain ⟨t, ht, e⟩ : ∃ t, t < (left total (sumTo W n) W n).toNat ∧ E t = i := by
          refine Classical.byContradiction fun hc2 => ?_
          have := inc_no (E := E) (t := (left total (sumTo W n) W n).toNat) (i := i) (fun s hs e => hc2 ⟨s, hs, e⟩)
          omega
        have hb := h.best t ht j hj (fun s hs => inc_zero hj0 s (by omega))
        rw [e] at hb
        unfold Beats at hb
        omega
      have h1 : sumTo (rem total (sumTo W n) W) n ≤ sumTo (fun j => (sumTo W n - 1) * inc E (left total (sumTo W n) W n).toNat j) n := by
        refine sum_le fun j hj => ?_
        have hj1 := rem_bd F hj
        rcases inc_01 E (left total (sumTo W n) W n).toNat j with h2 | h2
        · rw [h2, Int.mul_zero]; exact hfree j hj h2
        · rw [h2, Int.mul_one]; omega
      rw [sum_mul, inc_sum (r := rem total (sumTo W n) W) h.lt h.new _ (Nat.le_refl _), ← left_rem total n W] at h1
      have h3 : 0 < left total (sumTo W n) W n := by
        refine Classical.byContradiction fun hc3 => ?_
        have e : (left total (sumTo W n) W n).toNat = 0 := by omega
        rw [e] at h0
        cases h0
      have h4 : (((left total (sumTo W n) W n).toNat : Nat) : Int) = left total (sumTo W n) W n := by omega
      rw [h4, Int.sub_mul, Int.one_mul, Int.mul_comm] at h1
      omega
    omega
end Go.Proofs.Ytngmpimoebggdaa.ShareM
