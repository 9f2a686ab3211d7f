/- The mathematics of settlements: the greatest and the least balance, one entry, all entries. -/
import Derived.Test.YtngmpimoebggdaaEn
import Derived.Test.YtngmpimoebggdaaShareM
namespace Go.Proofs.Ytngmpimoebggdaa.C1
open Go.ChangeShapes Go.WideShapes Go.ChangeAt Go.RowKit Go.Proofs.Ytngmpimoebggdaa.ShareM
set_option linter.unusedVariables false

/-- The first place of the greatest of the first k numbers (0 if there is none). -/
def hiTo (Z : Nat → Int) : Nat → Nat
  | 0 => 0
  | k + 1 => if Z (hiTo Z k) < Z k then k else hiTo Z k
theorem hi_lt (Z : Nat → Int) : ∀ n, 0 < n → hiTo Z n < n
  | 0, h => by omega
  | 1, _ => by unfold hiTo hiTo; rw [if_neg (Int.lt_irrefl _)]; omega
  | n + 2, _ => by
    unfold hiTo
    split
    · omega
    · have := hi_lt Z (n + 1) (by omega); omega
theorem hi_ge (Z : Nat → Int) : ∀ n i, i < n → Z i ≤ Z (hiTo Z n)
  | 0, i, h => by omega
  | n + 1, i, h => by
    unfold hiTo
    split
    · rename_i h1
      rcases Nat.lt_or_ge i n with h2 | h2
      · have := hi_ge Z n i h2; omega
      · obtain rfl : i = n := by omega
        omega
    · rename_i h1
      rcases Nat.lt_or_ge i n with h2 | h2
      · exact hi_ge Z n i h2
      · obtain rfl : i = n := by omega
        omega
theorem hi_first (Z : Nat → Int) : ∀ n i, i < hiTo Z n → Z i < Z (hiTo Z n)
  | 0, i, h => by unfold hiTo at h; omega
  | n + 1, i, h => by
    unfold hiTo at h ⊢
    split at h
    · rename_i h1
      rw [if_pos h1]
      have := hi_ge Z n i h; omega
    · rename_i h1
      rw [if_neg h1]
      exact hi_first Z n i h
/-- The first place of the least one. -/
def loTo (Z : Nat → Int) (n : Nat) : Nat := hiTo (fun i => -Z i) n
theorem lo_succ (Z : Nat → Int) (n : Nat) : loTo Z (n + 1) = if Z n < Z (loTo Z n) then n else loTo Z n := by
  unfold loTo
  rw [hiTo]
  by_cases h : Z n < Z (hiTo (fun i => -Z i) n)
  · rw [if_pos (by omega), if_pos h]
  · rw [if_neg (by omega), if_neg h]
theorem lo_lt (Z : Nat → Int) (n : Nat) (h : 0 < n) : loTo Z n < n := hi_lt _ n h
theorem lo_le (Z : Nat → Int) (n i : Nat) (h : i < n) : Z (loTo Z n) ≤ Z i := by
  have : -Z i ≤ -Z (hiTo (fun i => -Z i) n) := hi_ge (fun i => -Z i) n i h
  unfold loTo
  omega
theorem lo_first (Z : Nat → Int) (n i : Nat) (h : i < loTo Z n) : Z (loTo Z n) < Z i := by
  have : -Z i < -Z (hiTo (fun i => -Z i) n) := hi_first (fun i => -Z i) n i h
  unfold loTo
  omega
/-- How many of the first n numbers are not 0. -/
def cntZ (Z : Nat → Int) : Nat → Nat
  | 0 => 0
  | k + 1 => cntZ Z k + if Z k = 0 then 0 else 1
theorem cntZ_le (Z : Nat → Int) : ∀ n, cntZ Z n ≤ n
  | 0 => Nat.le_refl _
  | n + 1 => by unfold cntZ; have := cntZ_le Z n; split <;> omega
theorem cntZ_mono {Y Z : Nat → Int} : ∀ {n : Nat}, (∀ i, i < n → Y i ≠ 0 → Z i ≠ 0) → cntZ Y n ≤ cntZ Z n
  | 0, _ => Nat.le_refl _
  | n + 1, h => by
    have h1 := cntZ_mono (n := n) (fun i hi => h i (by omega))
    have h2 := h n (by omega)
    unfold cntZ
    split <;> split <;> first | omega | (exfalso; rename_i a b; exact h2 a b)
theorem cntZ_lt {Y Z : Nat → Int} {j : Nat} : ∀ {n : Nat}, j < n → (∀ i, i < n → Y i ≠ 0 → Z i ≠ 0) → Z j ≠ 0 → Y j = 0 → cntZ Y n < cntZ Z n
  | 0, h, _, _, _ => by omega
  | n + 1, h, hm, hz, hy => by
    unfold cntZ
    rcases Nat.lt_or_ge j n with h1 | h1
    · have h2 := cntZ_lt (n := n) h1 (fun i hi => hm i (by omega)) hz hy
      have h3 := hm n (by omega)
      split <;> split <;> first | omega | (exfalso; rename_i a b; exact h3 a b)
    · obtain rfl : j = n := by omega
      have h2 := cntZ_mono (n := j) (fun i hi => hm i (by omega))
      rw [if_pos hy, if_neg hz]
      omega
theorem cntZ_zero {Z : Nat → Int} {n : Nat} (h : cntZ Z n = 0) : ∀ i, i < n → Z i = 0 := by
  induction n with
  | zero => intro i hi; omega
  | succ n ih =>
    unfold cntZ at h
    intro i hi
    rcases Nat.lt_or_ge i n with h1 | h1
    · exact ih (by omega) i h1
    · obtain rfl : i = n := by omega
      by_cases h2 : Z i = 0
      · exact h2
      · rw [if_neg h2] at h; omega
def upd (Z : Nat → Int) (h : Nat) (x : Int) (i : Nat) : Int := if i = h then x else Z i
theorem upd_at (Z : Nat → Int) (h : Nat) (x : Int) : upd Z h x h = x := if_pos rfl
theorem upd_ne {Z : Nat → Int} {h i : Nat} {x : Int} (e : i ≠ h) : upd Z h x i = Z i := if_neg e
theorem sum_upd (Z : Nat → Int) (h : Nat) (x : Int) : ∀ {n : Nat}, h < n → sumTo (upd Z h x) n = sumTo Z n - Z h + x
  | 0, h0 => by omega
  | n + 1, h0 => by
    unfold sumTo
    rcases Nat.lt_or_ge h n with h1 | h1
    · rw [sum_upd Z h x h1, upd_ne (by omega)]; omega
    · obtain rfl : h = n := by omega
      rw [upd_at, sum_congr (g := Z) (fun i hi => upd_ne (by omega))]; omega
theorem sum_zero_of {Z : Nat → Int} {n : Nat} (h : ∀ i, i < n → Z i ≤ 0) (hs : sumTo Z n = 0) : ∀ i, i < n → Z i = 0 := by
  induction n with
  | zero => intro i hi; omega
  | succ n ih =>
    unfold sumTo at hs
    have h1 : sumTo Z n ≤ 0 := by
      have := sum_le (f := Z) (g := fun _ => 0) (n := n) (fun i hi => h i (by omega))
      rw [sum_const] at this
      simpa using this
    have h2 := h n (by omega)
    intro i hi
    rcases Nat.lt_or_ge i n with h3 | h3
    · exact ih (fun j hj => h j (by omega)) (by omega) i h3
    · obtain rfl : i = n := by omega
      omega
/-- The amount of the next entry; the balances behind it. -/
def amtZ (Z : Nat → Int) (n : Nat) : Int := min (Z (hiTo Z n)) (-Z (loTo Z n))
def nxtZ (Z : Nat → Int) (n : Nat) : Nat → Int := upd (upd Z (hiTo Z n) (Z (hiTo Z n) - amtZ Z n)) (loTo Z n) (Z (loTo Z n) + amtZ Z n)
/-- Whether there is a debt. -/
def owes (Z : Nat → Int) (n : Nat) : Prop := 0 < n ∧ Z (hiTo Z n) ≠ 0
instance (Z : Nat → Int) (n : Nat) : Decidable (owes Z n) := by unfold owes; infer_instance
/-- What is known of balances that can be settled. -/
structure StI (Z : Nat → Int) (n : Nat) : Prop where
  n12 : n ≤ 12
  bd : ∀ i, i < n → -1000000000 ≤ Z i ∧ Z i ≤ 1000000000
  s : sumTo Z n = 0
theorem StI.pos {Z : Nat → Int} {n : Nat} (h : StI Z n) (ho : owes Z n) : hiTo Z n < n ∧ loTo Z n < n ∧ 0 < Z (hiTo Z n) ∧ Z (loTo Z n) < 0 ∧ hiTo Z n ≠ loTo Z n := by
  obtain ⟨h0, h1⟩ := ho
  have a1 := hi_lt Z n h0
  have a2 := lo_lt Z n h0
  have p : 0 < Z (hiTo Z n) := by
    rcases Int.lt_trichotomy (Z (hiTo Z n)) 0 with h2 | h2 | h2
    · have := sum_zero_of (Z := Z) (n := n) (fun i hi => by have := hi_ge Z n i hi; omega) h.s _ a1
      omega
    · exact absurd h2 h1
    · exact h2
  have q : Z (loTo Z n) < 0 := by
    rcases (by omega : Z (loTo Z n) < 0 ∨ 0 ≤ Z (loTo Z n)) with h2 | h2
    · exact h2
    · have hs : sumTo (fun i => -Z i) n = 0 := by
        have := sum_mul (-1) Z n
        rw [h.s] at this
        rw [← sum_congr (f := fun i => -1 * Z i) (fun i _ => by omega)]
        simpa using this
      have := sum_zero_of (Z := fun i => -Z i) (n := n) (fun i hi => by have := lo_le Z n i hi; show -Z i ≤ 0; omega) hs _ a1
      have : -Z (hiTo Z n) = 0 := this
      omega
  exact ⟨a1, a2, p, q, fun e => by rw [e] at p; omega⟩
theorem StI.amt {Z : Nat → Int} {n : Nat} (h : StI Z n) (ho : owes Z n) : 1 ≤ amtZ Z n ∧ amtZ Z n ≤ Z (hiTo Z n) ∧ amtZ Z n ≤ -Z (loTo Z n) ∧ amtZ Z n ≤ 1000000000 := by
  obtain ⟨a1, a2, p, q, _⟩ := h.pos ho
  have := (h.bd _ a1).2
  unfold amtZ
  omega
theorem next_hi {Z : Nat → Int} {n : Nat} (h : StI Z n) (ho : owes Z n) : nxtZ Z n (hiTo Z n) = Z (hiTo Z n) - amtZ Z n := by
  unfold nxtZ; rw [upd_ne (h.pos ho).2.2.2.2, upd_at]
theorem next_lo (Z : Nat → Int) (n : Nat) : nxtZ Z n (loTo Z n) = Z (loTo Z n) + amtZ Z n := upd_at _ _ _
theorem next_ne {Z : Nat → Int} {n i : Nat} (h1 : i ≠ hiTo Z n) (h2 : i ≠ loTo Z n) : nxtZ Z n i = Z i := by unfold nxtZ; rw [upd_ne h2, upd_ne h1]
theorem StI.next {Z : Nat → Int} {n : Nat} (h : StI Z n) (ho : owes Z n) : StI (nxtZ Z n) n := by
  obtain ⟨a1, a2, p, q, hne⟩ := h.pos ho
  obtain ⟨b0, b1, b2, b3⟩ := h.amt ho
  refine ⟨h.n12, fun i hi => ?_, ?_⟩
  · have c1 := h.bd _ a1
    have c2 := h.bd _ a2
    by_cases e2 : i = loTo Z n
    · rw [e2, next_lo]; omega
    · by_cases e1 : i = hiTo Z n
      · rw [e1, next_hi h ho]; omega
      · rw [next_ne e1 e2]; exact h.bd i hi
  · unfold nxtZ
    rw [sum_upd _ _ _ a2, sum_upd _ _ _ a1, h.s, upd_ne (fun e => hne e.symm)]
    omega
theorem StI.cnt {Z : Nat → Int} {n : Nat} (h : StI Z n) (ho : owes Z n) : cntZ (nxtZ Z n) n < cntZ Z n := by
  obtain ⟨a1, a2, p, q, hne⟩ := h.pos ho
  obtain ⟨b0, b1, b2, b3⟩ := h.amt ho
  have hm : ∀ i, i < n → nxtZ Z n i ≠ 0 → Z i ≠ 0 := fun i hi hz => by
    by_cases e1 : i = hiTo Z n
    · rw [e1]; omega
    · by_cases e2 : i = loTo Z n
      · rw [e2]; omega
      · rwa [next_ne e1 e2] at hz
  by_cases e : Z (hiTo Z n) ≤ -Z (loTo Z n)
  · exact cntZ_lt a1 hm (by omega) (by rw [next_hi h ho]; unfold amtZ; omega)
  · exact cntZ_lt a2 hm (by omega) (by rw [next_lo]; unfold amtZ; omega)
theorem not_owes {Z : Nat → Int} {n : Nat} (h : cntZ Z n = 0) : ¬ owes Z n := fun ⟨h0, h1⟩ => h1 (cntZ_zero h _ (hi_lt Z n h0))
/-- The next entry. -/
def entZ (Z : Nat → Int) (n : Nat) (t : Int) : En := ⟨(hiTo Z n : Int), (loTo Z n : Int), amtZ Z n, t, 0⟩
/-- All entries, k at most. -/
def setl (n : Nat) (t : Int) : Nat → (Nat → Int) → List En
  | 0, _ => []
  | k + 1, Z => if owes Z n then entZ Z n t :: setl n t k (nxtZ Z n) else []
theorem setl_no {n k : Nat} {t : Int} {Z : Nat → Int} (h : ¬ owes Z n) : setl n t k Z = [] := by
  cases k with
  | zero => rfl
  | succ k => unfold setl; rw [if_neg h]
theorem setl_yes {n k : Nat} {t : Int} {Z : Nat → Int} (h : owes Z n) : setl n t (k + 1) Z = entZ Z n t :: setl n t k (nxtZ Z n) := by
  rw [setl, if_pos h]
theorem setl_len (n : Nat) (t : Int) : ∀ k Z, (setl n t k Z).length ≤ k
  | 0, _ => Nat.le_refl _
  | k + 1, Z => by
    unfold setl
    split
    · have := setl_len n t k (nxtZ Z n); simp only [List.length_cons]; omega
    · simp
def inAll (Z : Nat → Int) : Nat → Bool
  | 0 => true
  | k + 1 => inAll Z k && inB (Z k) (-1000000000) 1000000000
theorem inAll_iff {Z : Nat → Int} {n : Nat} : inAll Z n = true ↔ ∀ i, i < n → inB (Z i) (-1000000000) 1000000000 = true := by
  induction n with
  | zero => simp [inAll]
  | succ n ih =>
    simp only [inAll, Bool.and_eq_true, ih]
    constructor
    · rintro ⟨h1, h2⟩ i hi
      rcases Nat.lt_or_ge i n with h | h
      · exact h1 i h
      · obtain rfl : i = n := by omega
        exact h2
    · intro h
      exact ⟨fun i hi => h i (by omega), h n (by omega)⟩
theorem inAll_no {Z : Nat → Int} {n k : Nat} (hk : k < n) (hb : inB (Z k) (-1000000000) 1000000000 = false) : inAll Z n = false := by
  rw [Bool.eq_false_iff]
  intro h'
  rw [inAll_iff.1 h' k hk] at hb
  cases hb
/-- Whether balances can be settled. -/
def canZ (n : Nat) (Z : Nat → Int) : Bool := decide (n ≤ 12) && (inAll Z n && decide (sumTo Z n = 0))
def settleL (n : Nat) (Z : Nat → Int) (t : Int) : List En := if canZ n Z = true ∧ inB t 0 1000000 = true then setl n t 12 Z else []
theorem settleL_le (n : Nat) (Z : Nat → Int) (t : Int) : (settleL n Z t).length ≤ 12 := by
  unfold settleL
  split
  · exact setl_len _ _ _ _
  · simp
theorem settle_bad {n : Nat} {Z : Nat → Int} {t : Int} (h : canZ n Z = false) : settleL n Z t = [] := by unfold settleL; rw [if_neg (fun h' => by rw [h] at h'; cases h'.1)]
theorem settle_time {n : Nat} {Z : Nat → Int} {t : Int} (h : inB t 0 1000000 = false) : settleL n Z t = [] := by unfold settleL; rw [if_neg (fun h' => by rw [h] at h'; cases h'.2)]
theorem settle_ok {n : Nat} {Z : Nat → Int} {t : Int} (h : canZ n Z = true) (ht : inB t 0 1000000 = true) : settleL n Z t = setl n t 12 Z := if_pos ⟨h, ht⟩
theorem can_iff {n : Nat} {Z : Nat → Int} : canZ n Z = true ↔ StI Z n := by
  unfold canZ
  simp only [Bool.and_eq_true, decide_eq_true_eq, inAll_iff]
  constructor
  · rintro ⟨h1, h2, h3⟩
    exact ⟨h1, fun i hi => inB_iff.1 (h2 i hi), h3⟩
  · rintro ⟨h1, h2, h3⟩
    exact ⟨h1, fun i hi => inB_iff.2 (h2 i hi), h3⟩
theorem can_len {n : Nat} {Z : Nat → Int} (h : 12 < n) : canZ n Z = false := by unfold canZ; rw [decide_eq_false (by omega), Bool.false_and]
theorem can_out {n k : Nat} {Z : Nat → Int} (hk : k < n) (hb : inB (Z k) (-1000000000) 1000000000 = false) : canZ n Z = false := by unfold canZ; rw [inAll_no hk hb, Bool.false_and, Bool.and_false]
theorem can_sum {n : Nat} {Z : Nat → Int} (h : n ≤ 12) (hi : inAll Z n = true) : canZ n Z = decide (sumTo Z n = 0) := by unfold canZ; rw [hi, decide_eq_true h, Bool.true_and, Bool.true_and]
theorem sum_inAll {Z : Nat → Int} {k : Nat} (h : inAll Z k = true) (hk : k ≤ 12) : -12000000000 ≤ sumTo Z k ∧ sumTo Z k ≤ 12000000000 := by
  have h1 := sum_bd (f := Z) (n := k) (c := 1000000000) (fun i hi => (inB_iff.1 (inAll_iff.1 h i hi)).2)
  have h2 := sum_le (f := fun _ => -1000000000) (g := Z) (n := k) (fun i hi => (inB_iff.1 (inAll_iff.1 h i hi)).1)
  rw [sum_const] at h2
  omega
/-- What is left to do: f entries at most, behind those in acc. -/
structure StR (n : Nat) (t : Int) (S : List En) (Z : Nat → Int) (f : Nat) (acc : List En) : Prop where
  len : acc.length + f = 12
  all : acc ++ setl n t f Z = S
  cnt : cntZ Z n ≤ f
  ok : StI Z n
theorem StR.start {n : Nat} {t : Int} {Z : Nat → Int} (h : StI Z n) : StR n t (setl n t 12 Z) Z 12 [] := ⟨rfl, rfl, Nat.le_trans (cntZ_le Z n) h.n12, h⟩
theorem StR.done {n f : Nat} {t : Int} {S acc : List En} {Z : Nat → Int} (h : StR n t S Z f acc) (ho : ¬ owes Z n) : acc = S := by rw [← h.all, setl_no ho, List.append_nil]
theorem StR.step {n f : Nat} {t : Int} {S acc : List En} {Z : Nat → Int} (h : StR n t S Z f acc) (ho : owes Z n) : 0 < f ∧ StR n t S (nxtZ Z n) (f - 1) (acc ++ [entZ Z n t]) := by
  have hf : 0 < f := by
    rcases Nat.eq_zero_or_pos f with h0 | h0
    · subst h0
      exact absurd ho (not_owes (by have := h.cnt; omega))
    · exact h0
  obtain ⟨k, rfl⟩ : ∃ k, f = k + 1 := ⟨f - 1, by omega⟩
  have hc := h.ok.cnt ho
  have h1 := h.cnt
  have h2 := h.len
  refine ⟨hf, by simp only [List.length_append, List.length_cons, List.length_nil]; omega, ?_, by omega, h.ok.next ho⟩
  rw [← h.all, setl_yes ho, Nat.add_sub_cancel, List.append_assoc]
  rfl
end Go.Proofs.Ytngmpimoebggdaa.C1
