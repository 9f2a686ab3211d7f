/- The mathematics of turns, stretches and pauses. -/
import Derived.Test.YtngmpimoebggdaaNum
namespace Go.Proofs.Ytngmpimoebggdaa.C1
open Go.ChangeShapes Go.WideShapes Go.ChangeAt Go.RowKit
set_option linter.unusedVariables false

/-- A turn: its direction, and how many in a row. -/
structure Tn where
  u : Bool
  c : Int
def tnOk (T : Tn) : Bool := inB T.c 0 1000000
def noteT (T : Tn) (up : Bool) : Tn := if tnOk T = true then (if up = T.u then ⟨up, min (T.c + 1) 1000000⟩ else ⟨up, 1⟩) else T
/-- A stretch: its direction, how many are inside, how many in a row, and its limit. -/
structure Sr where
  u : Bool
  i : Int
  r : Int
  l : Int
def srOk (S : Sr) : Bool := inB S.i 0 S.r && (inB S.r 0 1000000 && inB S.l 1 100)
def mayP (S : Sr) (up o : Bool) : Bool := srOk S && (if up = S.u then decide (S.r < S.l) || !o else decide (S.i = 0))
def enterS (S : Sr) (up : Bool) : Sr := if mayP S up false = true ∧ ¬ (S.r = 1000000 ∧ up = S.u) then ⟨up, S.i + 1, (if up = S.u then S.r + 1 else 1), S.l⟩ else S
def leaveS (S : Sr) : Sr := if srOk S = true ∧ 0 < S.i then ⟨S.u, S.i - 1, S.r, S.l⟩ else S
theorem srOk_iff {S : Sr} : srOk S = true ↔ (0 ≤ S.i ∧ S.i ≤ S.r) ∧ (0 ≤ S.r ∧ S.r ≤ 1000000) ∧ (1 ≤ S.l ∧ S.l ≤ 100) := by
  unfold srOk
  simp only [Bool.and_eq_true, inB_iff]

/-- Pauses: each begins where the one before has ended, or later. -/
def lastU (U : Nat → Int) (k : Nat) : Int := if k = 0 then 0 else U (k - 1)
def psAt (F U : Nat → Int) (k : Nat) : Bool := !(decide (F k < lastU U k) || (decide (U k ≤ F k) || decide (1000000 < U k)))
def psTo (F U : Nat → Int) : Nat → Bool
  | 0 => true
  | k + 1 => psTo F U k && psAt F U k
def psOk (n : Nat) (F U : Nat → Int) : Bool := decide (n ≤ 8) && psTo F U n
theorem psTo_iff {F U : Nat → Int} {n : Nat} : psTo F U n = true ↔ ∀ i, i < n → psAt F U i = true := by
  induction n with
  | zero => simp [psTo]
  | succ n ih =>
    simp only [psTo, Bool.and_eq_true, ih]
    constructor
    · rintro ⟨h1, h2⟩ i hi
      rcases Nat.lt_or_ge i n with h | h
      · exact h1 i h
      · obtain rfl : i = n := by omega
        exact h2
    · intro h
      exact ⟨fun i hi => h i (by omega), h n (by omega)⟩
theorem psTo_no {F U : Nat → Int} {n k : Nat} (hk : k < n) (h : psAt F U k = false) : psTo F U n = false := by
  rw [Bool.eq_false_iff]
  intro h'
  rw [psTo_iff.1 h' k hk] at h
  cases h
theorem ps_no {F U : Nat → Int} {n k : Nat} (hk : k < n) (h : psAt F U k = false) : psOk n F U = false := by unfold psOk; rw [psTo_no hk h, Bool.and_false]
theorem ps_len {F U : Nat → Int} {n : Nat} (h : 8 < n) : psOk n F U = false := by unfold psOk; rw [decide_eq_false (by omega), Bool.false_and]
theorem ps_to {F U : Nat → Int} {n : Nat} (h : psTo F U n = true) : psOk n F U = decide (n ≤ 8) := by unfold psOk; rw [h, Bool.and_true]
theorem psAt_cases (F U : Nat → Int) (k : Nat) : (psAt F U k = false ∧ F k < lastU U k) ∨ (psAt F U k = false ∧ lastU U k ≤ F k ∧ U k ≤ F k) ∨ (psAt F U k = false ∧ lastU U k ≤ F k ∧ F k < U k ∧ 1000000 < U k) ∨ (psAt F U k = true ∧ lastU U k ≤ F k ∧ F k < U k ∧ U k ≤ 1000000) := by
  unfold psAt
  by_cases h1 : F k < lastU U k
  · left; exact ⟨by simp [h1], h1⟩
  · by_cases h2 : U k ≤ F k
    · right; left; exact ⟨by simp [h2], by omega, h2⟩
    · by_cases h3 : 1000000 < U k
      · right; right; left; exact ⟨by simp [h3], by omega, by omega, h3⟩
      · right; right; right; exact ⟨by simp; omega, by omega, by omega, by omega⟩
theorem psAt_iff {F U : Nat → Int} {k : Nat} : psAt F U k = true ↔ lastU U k ≤ F k ∧ F k < U k ∧ U k ≤ 1000000 := by
  rcases psAt_cases F U k with ⟨h, h1⟩ | ⟨h, h1, h2⟩ | ⟨h, h1, h2, h3⟩ | ⟨h, h1, h2, h3⟩ <;> rw [h] <;> simp <;> omega
/-- Whether pause k lasts at t. -/
def lasts (F U : Nat → Int) (t : Int) (k : Nat) : Bool := decide (F k ≤ t) && decide (t < U k)
def anyL (F U : Nat → Int) (t : Int) : Nat → Bool
  | 0 => false
  | k + 1 => anyL F U t k || lasts F U t k
theorem anyL_no {F U : Nat → Int} {t : Int} {n : Nat} : anyL F U t n = false ↔ ∀ i, i < n → lasts F U t i = false := by
  induction n with
  | zero => simp [anyL]
  | succ n ih =>
    simp only [anyL, Bool.or_eq_false_iff, ih]
    constructor
    · rintro ⟨h1, h2⟩ i hi
      rcases Nat.lt_or_ge i n with h | h
      · exact h1 i h
      · obtain rfl : i = n := by omega
        exact h2
    · intro h
      exact ⟨fun i hi => h i (by omega), h n (by omega)⟩
theorem anyL_yes {F U : Nat → Int} {t : Int} {n k : Nat} (hk : k < n) (h : lasts F U t k = true) : anyL F U t n = true := by
  cases h' : anyL F U t n with
  | true => rfl
  | false => rw [anyL_no.1 h' k hk] at h; cases h
def isOp (n : Nat) (F U : Nat → Int) (t : Int) : Bool := psOk n F U && (inB t 0 1000000 && !anyL F U t n)
/-- The time t moved on over the pauses before place k. -/
def moved (F U : Nat → Int) (t : Int) : Nat → Int
  | 0 => t
  | k + 1 => if lasts F U (moved F U t k) k = true then U k else moved F U t k
def nextO (n : Nat) (F U : Nat → Int) (t : Int) : Int := if (psOk n F U && inB t 0 1000000) = true then moved F U t n else -1
theorem ends_mono {F U : Nat → Int} {n : Nat} (h : psTo F U n = true) {i j : Nat} (hij : i ≤ j) (hj : j < n) : U i ≤ U j ∧ F i ≤ F j ∧ (i < j → U i ≤ F j) := by
  obtain ⟨d, rfl⟩ : ∃ d, j = i + d := ⟨j - i, by omega⟩
  clear hij
  induction d with
  | zero => exact ⟨Int.le_refl _, Int.le_refl _, fun h => absurd h (by omega)⟩
  | succ d ih =>
    have h1 := ih (by omega)
    have h2 := psAt_iff.1 (psTo_iff.1 h (i + d) (by omega))
    have h3 := psAt_iff.1 (psTo_iff.1 h (i + (d + 1)) (by omega))
    have e : lastU U (i + (d + 1)) = U (i + d) := by unfold lastU; rw [if_neg (by omega), show i + (d + 1) - 1 = i + d by omega]
    rw [e] at h3
    exact ⟨by omega, by omega, fun _ => by omega⟩
theorem moved_succ (F U : Nat → Int) (t : Int) (k : Nat) : moved F U t (k + 1) = if lasts F U (moved F U t k) k = true then U k else moved F U t k := rfl
theorem moved_yes {F U : Nat → Int} {t : Int} {k : Nat} (h1 : F k ≤ moved F U t k) : moved F U t (k + 1) = max (moved F U t k) (U k) := by
  rw [moved_succ]
  unfold lasts
  by_cases h : moved F U t k < U k
  · rw [decide_eq_true h1, decide_eq_true h, if_pos (by decide)]; omega
  · rw [decide_eq_false h, Bool.and_false, if_neg (by decide)]; omega
theorem moved_no {F U : Nat → Int} {t : Int} {k : Nat} (h1 : moved F U t k < F k) : moved F U t (k + 1) = moved F U t k := by
  rw [moved_succ]
  unfold lasts
  rw [decide_eq_false (by omega), Bool.false_and, if_neg (by decide)]
/-- Where the time stands behind k pauses: not in one of them, and no later than need be. -/
theorem moved_in {F U : Nat → Int} {n : Nat} {t : Int} (h : psTo F U n = true) (ht1 : t ≤ 1000000) : ∀ k, k ≤ n → t ≤ moved F U t k ∧ moved F U t k ≤ 1000000 ∧ (∀ x, t ≤ x → x < moved F U t k → ∃ i, i < k ∧ lasts F U x i = true) ∧ ∀ i, i < k → lasts F U (moved F U t k) i = false := by
  intro k
  induction k with
  | zero => intro _; exact ⟨Int.le_refl _, ht1, fun x h1 h2 => absurd h2 (by show ¬ x < t; omega), fun i hi => absurd hi (by omega)⟩
  | succ k ih =>
    intro hk
    obtain ⟨h1, h2, h3, h4⟩ := ih (by omega)
    have hp := psAt_iff.1 (psTo_iff.1 h k (by omega))
    have hm := moved_succ F U t k
    generalize moved F U t k = m at *
    rw [hm]
    by_cases hl : lasts F U m k = true
    · rw [if_pos hl]
      have hl' := hl
      unfold lasts at hl'
      simp only [Bool.and_eq_true, decide_eq_true_eq] at hl'
      refine ⟨by omega, by omega, fun x a b => ?_, fun i hi => ?_⟩
      · by_cases hx : x < m
        · obtain ⟨i, hi, hh⟩ := h3 x a hx
          exact ⟨i, by omega, hh⟩
        · exact ⟨k, by omega, by unfold lasts; rw [decide_eq_true (by omega), decide_eq_true b]; rfl⟩
      · have := (ends_mono h (i := i) (j := k) (by omega) (by omega)).1
        unfold lasts
        rw [decide_eq_false (p := U k < U i) (by omega), Bool.and_false]
    · rw [if_neg hl]
      refine ⟨h1, h2, fun x a b => ?_, fun i hi => ?_⟩
      · obtain ⟨i, hi, hh⟩ := h3 x a b
        exact ⟨i, by omega, hh⟩
      · rcases Nat.lt_or_ge i k with hik | hik
        · exact h4 i hik
        · obtain rfl : i = k := by omega
          simpa using hl
theorem moved_stop {F U : Nat → Int} {n : Nat} {t : Int} (h : psTo F U n = true) {k : Nat} (hk : k < n) (hs : moved F U t k < F k) : ∀ d, k + d ≤ n → moved F U t (k + d) = moved F U t k := by
  intro d
  induction d with
  | zero => intro _; rfl
  | succ d ih =>
    intro hd
    have e := ih (by omega)
    have hf := (ends_mono h (i := k) (j := k + d) (by omega) (by omega)).2.1
    rw [show k + (d + 1) = k + d + 1 by omega, moved_no (by omega), e]
theorem isOp_bad {n : Nat} {F U : Nat → Int} {t : Int} (h : psOk n F U = false) : isOp n F U t = false := by unfold isOp; rw [h, Bool.false_and]
theorem isOp_out {n : Nat} {F U : Nat → Int} {t : Int} (h : inB t 0 1000000 = false) : isOp n F U t = false := by unfold isOp; rw [h, Bool.false_and, Bool.and_false]
theorem isOp_in {n : Nat} {F U : Nat → Int} {t : Int} (h : psOk n F U = true) (h1 : inB t 0 1000000 = true) : isOp n F U t = !anyL F U t n := by unfold isOp; rw [h, h1, Bool.true_and, Bool.true_and]
theorem nextO_bad {n : Nat} {F U : Nat → Int} {t : Int} (h : psOk n F U = false) : nextO n F U t = -1 := by unfold nextO; rw [h, Bool.false_and, if_neg (by decide)]
theorem nextO_out {n : Nat} {F U : Nat → Int} {t : Int} (h : inB t 0 1000000 = false) : nextO n F U t = -1 := by unfold nextO; rw [h, Bool.and_false, if_neg (by decide)]
theorem nextO_in {n : Nat} {F U : Nat → Int} {t : Int} (h : psOk n F U = true) (h1 : inB t 0 1000000 = true) : nextO n F U t = moved F U t n := by unfold nextO; rw [h, h1, if_pos (by decide)]
theorem ps_parts {n : Nat} {F U : Nat → Int} (h : psOk n F U = true) : n ≤ 8 ∧ psTo F U n = true := by
  unfold psOk at h
  simp only [Bool.and_eq_true, decide_eq_true_eq] at h
  exact h
theorem lasts_in (F U : Nat → Int) (t : Int) (k : Nat) : lasts F U t k = inB t (F k) (U k - 1) := by
  unfold lasts inB
  by_cases h1 : F k ≤ t
  · by_cases h2 : t < U k
    · rw [decide_eq_true h1, decide_eq_true h2, decide_eq_true ⟨h1, by omega⟩]; rfl
    · rw [decide_eq_true h1, decide_eq_false h2, decide_eq_false (by omega)]; rfl
  · rw [decide_eq_false h1, Bool.false_and, decide_eq_false (fun h => h1 h.1)]
end Go.Proofs.Ytngmpimoebggdaa.C1
