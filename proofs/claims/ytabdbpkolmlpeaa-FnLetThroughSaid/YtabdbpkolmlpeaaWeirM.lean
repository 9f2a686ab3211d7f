/- The mathematics of weirs: what a weir and a rule are, what their functions give. -/
import Derived.Test.YtabdbpkolmlpeaaNum
namespace Go.Proofs.Ytabdbpkolmlpeaa.C1
open Go.ChangeShapes Go.WideShapes Go.ChangeAt Go.RowKit
set_option linter.unusedVariables false

/-- A weir: gates, open, step, crest, width. -/
structure Wr where
  g : Int
  o : Int
  s : Int
  k : Int
  w : Int
def wOk (W : Wr) : Bool := inB W.g 1 8 && (inB W.o 0 (10 * W.g) && (inB W.s 1 80 && (inB W.k 0 100000 && inB W.w 1 1000)))
structure WP (W : Wr) : Prop where
  g0 : 1 ≤ W.g
  g1 : W.g ≤ 8
  o0 : 0 ≤ W.o
  o1 : W.o ≤ 10 * W.g
  s0 : 1 ≤ W.s
  s1 : W.s ≤ 80
  k0 : 0 ≤ W.k
  k1 : W.k ≤ 100000
  w0 : 1 ≤ W.w
  w1 : W.w ≤ 1000
theorem wOk_iff {W : Wr} : wOk W = true ↔ WP W := by
  unfold wOk
  simp only [Bool.and_eq_true, inB_iff]
  exact ⟨fun ⟨⟨a, b⟩, ⟨c, d⟩, ⟨e, f⟩, ⟨g, h⟩, ⟨i, j⟩⟩ => ⟨a, b, c, d, e, f, g, h, i, j⟩, fun ⟨a, b, c, d, e, f, g, h, i, j⟩ => ⟨⟨a, b⟩, ⟨c, d⟩, ⟨e, f⟩, ⟨g, h⟩, ⟨i, j⟩⟩⟩
theorem wOk_cases (W : Wr) : (wOk W = false ∧ inB W.g 1 8 = false) ∨ (wOk W = false ∧ inB W.g 1 8 = true ∧ inB W.o 0 (10 * W.g) = false) ∨ (wOk W = false ∧ inB W.g 1 8 = true ∧ inB W.o 0 (10 * W.g) = true ∧ inB W.s 1 80 = false) ∨
    (wOk W = false ∧ inB W.g 1 8 = true ∧ inB W.o 0 (10 * W.g) = true ∧ inB W.s 1 80 = true ∧ inB W.k 0 100000 = false) ∨ (inB W.g 1 8 = true ∧ inB W.o 0 (10 * W.g) = true ∧ inB W.s 1 80 = true ∧ inB W.k 0 100000 = true ∧ wOk W = inB W.w 1 1000) := by
  unfold wOk
  cases inB W.g 1 8 <;> cases inB W.o 0 (10 * W.g) <;> cases inB W.s 1 80 <;> cases inB W.k 0 100000 <;> simp
theorem clampZ_mid {n lo hi : Int} (h1 : lo ≤ n) (h2 : n ≤ hi) : clampZ n lo hi = n := by unfold clampZ; rw [if_neg (by omega), if_neg (by omega), if_neg (by omega)]
theorem clampZ_bd {n lo hi : Int} (h : lo ≤ hi) : lo ≤ clampZ n lo hi ∧ clampZ n lo hi ≤ hi := by
  unfold clampZ
  rw [if_neg (by omega)]
  split
  · omega
  · split <;> omega
/-- Each number put into its range. -/
def cW (W : Wr) : Wr := ⟨clampZ W.g 1 8, clampZ W.o 0 (10 * clampZ W.g 1 8), clampZ W.s 1 80, clampZ W.k 0 100000, clampZ W.w 1 1000⟩
theorem cW_id {W : Wr} (h : wOk W = true) : cW W = W := by
  obtain ⟨a, b, c, d, e, f, g, h, i, j⟩ := wOk_iff.1 h
  unfold cW
  rw [clampZ_mid a b, clampZ_mid c d, clampZ_mid e f, clampZ_mid g h, clampZ_mid i j]
theorem cW_ne {W : Wr} (h : wOk W = false) : (decide (W.g = (cW W).g) && (decide (W.o = (cW W).o) && (decide (W.s = (cW W).s) && (decide (W.k = (cW W).k) && decide (W.w = (cW W).w))))) = false := by
  rw [Bool.eq_false_iff] at h ⊢
  intro hh
  apply h
  simp only [Bool.and_eq_true, decide_eq_true_eq] at hh
  obtain ⟨a, b, c, d, e⟩ := hh
  have hg : 1 ≤ (cW W).g ∧ (cW W).g ≤ 8 := clampZ_bd (show (1 : Int) ≤ 8 by decide)
  have ho : 0 ≤ (cW W).o ∧ (cW W).o ≤ 10 * (cW W).g := clampZ_bd (by show (0 : Int) ≤ 10 * (cW W).g; omega)
  have hs : 1 ≤ (cW W).s ∧ (cW W).s ≤ 80 := clampZ_bd (show (1 : Int) ≤ 80 by decide)
  have hk : 0 ≤ (cW W).k ∧ (cW W).k ≤ 100000 := clampZ_bd (show (0 : Int) ≤ 100000 by decide)
  have hw : 1 ≤ (cW W).w ∧ (cW W).w ≤ 1000 := clampZ_bd (show (1 : Int) ≤ 1000 by decide)
  exact wOk_iff.2 ⟨by omega, by omega, by omega, by omega, by omega, by omega, by omega, by omega, by omega, by omega⟩

/-- How far the water stands above crest and water below, its root. -/
def headZ (W : Wr) (up down : Int) : Int := up - max W.k down
def rootW (W : Wr) (up down : Int) : Int := rootZ (max 0 (headZ W up down))
def flowB (W : Wr) (up down : Int) : Bool := wOk W && (inB up 0 100000 && inB down 0 100000)
def openFlow (W : Wr) (up down n : Int) : Int := n * W.w * rootW W up down / 10
def flowW (W : Wr) (up down : Int) : Int := if flowB W up down = true then openFlow W up down W.o else 0
theorem rootZ_zero : rootZ 0 = 0 := (rootZ_of 0 0 (by decide) (by decide) (by decide) (by decide) (by decide)).symm
theorem rootZ_bd {n : Int} (h0 : 0 ≤ n) (h1 : n ≤ 100000) : 0 ≤ rootZ n ∧ rootZ n ≤ 316 := by
  have e : rootZ n = (isq n.toNat : Int) := by unfold rootZ; rw [if_neg (by omega)]
  have h := isq_spec n.toNat
  rw [e]
  refine ⟨by omega, ?_⟩
  rcases Nat.lt_or_ge 316 (isq n.toNat) with hh | hh
  · have : 317 * 317 ≤ isq n.toNat * isq n.toNat := Nat.mul_le_mul hh hh
    omega
  · omega
theorem rootZ_mono {a b : Int} (h0 : 0 ≤ a) (h : a ≤ b) (h1 : b ≤ 1000000000000000000) : rootZ a ≤ rootZ b := by
  have ea : rootZ a = (isq a.toNat : Int) := by unfold rootZ; rw [if_neg (by omega)]
  have eb : rootZ b = (isq b.toNat : Int) := by unfold rootZ; rw [if_neg (by omega)]
  have h2 := isq_spec a.toNat
  have h3 := isq_spec b.toNat
  rw [ea, eb]
  rcases Nat.lt_or_ge (isq b.toNat) (isq a.toNat) with hh | hh
  · have : (isq b.toNat + 1) * (isq b.toNat + 1) ≤ isq a.toNat * isq a.toNat := Nat.mul_le_mul hh hh
    omega
  · omega
theorem rootW_bd {W : Wr} {up down : Int} (hk : 0 ≤ W.k) (h1 : up ≤ 100000) : 0 ≤ rootW W up down ∧ rootW W up down ≤ 316 := rootZ_bd (by omega) (by unfold headZ; omega)
theorem flowB_iff {W : Wr} {up down : Int} : flowB W up down = true ↔ WP W ∧ (0 ≤ up ∧ up ≤ 100000) ∧ (0 ≤ down ∧ down ≤ 100000) := by
  unfold flowB
  simp only [Bool.and_eq_true, inB_iff, wOk_iff]
theorem openFlow_parts {W : Wr} {up down n : Int} (h : WP W) (h1 : up ≤ 100000) (h0 : 0 ≤ n) (hn : n ≤ 80) : 0 ≤ n * W.w ∧ n * W.w ≤ 80000 ∧ 0 ≤ n * W.w * rootW W up down ∧ n * W.w * rootW W up down ≤ 25280000 := by
  have hr := rootW_bd (down := down) h.k0 h1
  have a1 : 0 ≤ n * W.w := Int.mul_nonneg h0 (by have := h.w0; omega)
  have a2 : n * W.w ≤ 80 * 1000 := Int.mul_le_mul hn h.w1 (by have := h.w0; omega) (by omega)
  have a3 : 0 ≤ n * W.w * rootW W up down := Int.mul_nonneg a1 hr.1
  have a4 : n * W.w * rootW W up down ≤ 80000 * 316 := Int.mul_le_mul (by omega) hr.2 hr.1 (by omega)
  omega
theorem openFlow_bd {W : Wr} {up down n : Int} (h : WP W) (h1 : up ≤ 100000) (h0 : 0 ≤ n) (hn : n ≤ 80) : 0 ≤ openFlow W up down n ∧ openFlow W up down n ≤ 2528000 := by
  have := openFlow_parts (down := down) h h1 h0 hn
  unfold openFlow
  omega
theorem openFlow_mono {W : Wr} {up down n m : Int} (h : WP W) (h1 : up ≤ 100000) (hnm : n ≤ m) : openFlow W up down n ≤ openFlow W up down m := by
  have hr := rootW_bd (down := down) h.k0 h1
  have a1 : n * W.w ≤ m * W.w := Int.mul_le_mul_of_nonneg_right hnm (by have := h.w0; omega)
  have a2 : n * W.w * rootW W up down ≤ m * W.w * rootW W up down := Int.mul_le_mul_of_nonneg_right a1 hr.1
  unfold openFlow
  omega
theorem openFlow_up {W : Wr} {up up' down n : Int} (h : WP W) (hu : up ≤ up') (h1 : up' ≤ 100000) (h0 : 0 ≤ n) : openFlow W up down n ≤ openFlow W up' down n := by
  have hr : rootW W up down ≤ rootW W up' down := rootZ_mono (by omega) (by unfold headZ; omega) (by have := h.k0; unfold headZ; omega)
  have a1 : 0 ≤ n * W.w := Int.mul_nonneg h0 (by have := h.w0; omega)
  have a2 : n * W.w * rootW W up down ≤ n * W.w * rootW W up' down := Int.mul_le_mul_of_nonneg_left hr a1
  unfold openFlow
  omega
theorem openFlow_dry {W : Wr} {up down n : Int} (h : headZ W up down ≤ 0) : openFlow W up down n = 0 := by
  unfold openFlow rootW
  rw [show max 0 (headZ W up down) = 0 by omega, rootZ_zero, Int.mul_zero]
  decide

/-- The gate's step towards a number. -/
def moveB (W : Wr) (n : Int) : Bool := wOk W && inB n 0 (10 * W.g)
def moveO (W : Wr) (n : Int) : Int := max (W.o - W.s) (min n (W.o + W.s))
def moveW (W : Wr) (n : Int) : Wr := if moveB W n = true then { W with o := moveO W n } else W
theorem moveW_yes {W : Wr} {n : Int} (h : moveB W n = true) : moveW W n = { W with o := moveO W n } := by unfold moveW; rw [if_pos h]
theorem moveW_no {W : Wr} {n : Int} (h : moveB W n = false) : moveW W n = W := by unfold moveW; rw [h]; rfl
theorem moveB_iff {W : Wr} {n : Int} : moveB W n = true ↔ WP W ∧ 0 ≤ n ∧ n ≤ 10 * W.g := by
  unfold moveB
  simp only [Bool.and_eq_true, inB_iff, wOk_iff]
theorem moveW_ok {W : Wr} {n : Int} (h : wOk W = true) : wOk (moveW W n) = true := by
  cases hb : moveB W n with
  | false => rw [moveW_no hb]; exact h
  | true =>
    obtain ⟨H, h0, h1⟩ := moveB_iff.1 hb
    rw [moveW_yes hb]
    obtain ⟨a, b, c, d, e, f, g, h, i, j⟩ := H
    exact wOk_iff.2 ⟨a, b, by show 0 ≤ moveO W n; unfold moveO; omega, by show moveO W n ≤ 10 * W.g; unfold moveO; omega, e, f, g, h, i, j⟩

/-- The least opening with a flow. -/
def leastF (f : Int → Int) (flow : Int) (k : Nat) : Nat → Nat
  | 0 => k
  | d + 1 => if flow ≤ f (k : Int) then k else leastF f flow (k + 1) d
theorem leastF_spec (f : Int → Int) (flow : Int) : ∀ (d k : Nat), k ≤ leastF f flow k d ∧ leastF f flow k d ≤ k + d ∧ (∀ i, k ≤ i → i < leastF f flow k d → f (i : Int) < flow) ∧ (leastF f flow k d < k + d → flow ≤ f (leastF f flow k d : Int)) := by
  intro d
  induction d with
  | zero => intro k; exact ⟨Nat.le_refl _, Nat.le_refl _, fun i h1 h2 => absurd h2 (by show ¬ i < k; omega), fun h => absurd h (by show ¬ k < k + 0; omega)⟩
  | succ d ih =>
    intro k
    unfold leastF
    by_cases h : flow ≤ f (k : Int)
    · rw [if_pos h]; exact ⟨Nat.le_refl _, by omega, fun i h1 h2 => absurd h2 (by omega), fun _ => h⟩
    · rw [if_neg h]
      obtain ⟨a, b, c, e⟩ := ih (k + 1)
      refine ⟨by omega, by omega, fun i h1 h2 => ?_, fun h' => e (by omega)⟩
      rcases Nat.lt_or_ge k i with hh | hh
      · exact c i hh h2
      · obtain rfl : i = k := by omega
        omega
theorem leastF_uniq {f : Int → Int} {flow : Int} {d n : Nat} (h1 : n ≤ d) (h2 : ∀ i, i < n → f (i : Int) < flow) (h3 : n < d → flow ≤ f (n : Int)) : leastF f flow 0 d = n := by
  obtain ⟨_, b, c, e⟩ := leastF_spec f flow d 0
  rcases Nat.lt_trichotomy (leastF f flow 0 d) n with h | h | h
  · have := h2 _ h; have := e (by omega); omega
  · exact h
  · have := c n (Nat.zero_le _) h; have := h3 (by omega); omega
def openN (W : Wr) (up down flow : Int) : Nat := leastF (openFlow W up down) flow 0 (10 * W.g).toNat
def openZ (W : Wr) (up down flow : Int) : Int := if flowB W up down = true then (openN W up down flow : Int) else 0

/-- A rule. -/
structure Ru where
  l : Int
  h : Int
  f : Int
def uOk (U : Ru) : Bool := inB U.l 0 100000 && (inB U.h 0 100000 && (inB U.f 0 100000 && (decide (U.l < U.h) && decide (U.h ≤ U.f))))
theorem uOk_iff {U : Ru} : uOk U = true ↔ 0 ≤ U.l ∧ U.l < U.h ∧ U.h ≤ U.f ∧ U.f ≤ 100000 := by
  unfold uOk
  simp only [Bool.and_eq_true, inB_iff, decide_eq_true_eq]
  omega
def wantB (U : Ru) (level inflow : Int) : Bool := uOk U && (inB inflow 0 1000000000 && inB level 0 100000)
def wantZ (U : Ru) (level inflow : Int) : Int := if wantB U level inflow = true ∧ U.l < level then min (2 * inflow) (inflow * (level - U.l) / (U.h - U.l)) else 0
theorem wantB_iff {U : Ru} {level inflow : Int} : wantB U level inflow = true ↔ (0 ≤ U.l ∧ U.l < U.h ∧ U.h ≤ U.f ∧ U.f ≤ 100000) ∧ (0 ≤ inflow ∧ inflow ≤ 1000000000) ∧ (0 ≤ level ∧ level ≤ 100000) := by
  unfold wantB
  simp only [Bool.and_eq_true, inB_iff, uOk_iff]
def steerB (W : Wr) (U : Ru) (up down inflow : Int) : Bool := wOk W && (uOk U && (inB inflow 0 1000000000 && (inB up 0 100000 && inB down 0 100000)))
def steerN (W : Wr) (U : Ru) (up down inflow : Int) : Int := if U.f ≤ up then 10 * W.g else openZ W up down (wantZ U up inflow)
def steerW (W : Wr) (U : Ru) (up down inflow : Int) : Wr := if steerB W U up down inflow = true then moveW W (steerN W U up down inflow) else W
end Go.Proofs.Ytabdbpkolmlpeaa.C1
