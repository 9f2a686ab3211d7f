/- PlaceOf: plain lemmas (values of a table do not fall; the first place is the only one), and the contracts of the program and of its model. -/
import Derived.Test.YtngmpimoebggdaaVal2
namespace Go.Proofs.Ytngmpimoebggdaa.C1
open Go.ChangeShapes Go.WideShapes Go.ChangeAt Go.RowKit
set_option linter.unusedVariables false

theorem mid_zero (X Y : Nat → Int) (k : Nat) : midZ X Y (X k) k = Y k := by unfold midZ; rw [Int.sub_self, Int.zero_mul, Int.zero_ediv, Int.add_zero]
theorem valZ_seg {n : Nat} {X Y : Nat → Int} {x : Int} {k : Nat} (ht : tabOk n X Y = true) (hk : k + 1 < n) (h1 : X k ≤ x) (h2 : x < X (k + 1)) : valZ n X Y x = midZ X Y x k := by
  have T := tabP_of ht
  have h9 : x < X (n - 1) := by
    rcases Nat.lt_or_ge (k + 1) (n - 1) with h | h
    · have := T.x_lt h (by omega); omega
    · rw [show n - 1 = k + 1 by omega]; exact h2
  by_cases h0 : X 0 < x
  · exact valZ_mid ht h0 h9 hk h1 h2
  · have hk0 : k = 0 := by
      rcases Nat.eq_zero_or_pos k with h | h
      · exact h
      · have := T.x_lt h (by omega); omega
    subst hk0
    obtain rfl : x = X 0 := by omega
    rw [valZ_low ht (Int.le_refl _), mid_zero]
theorem valZ_at {n : Nat} {X Y : Nat → Int} {k : Nat} (ht : tabOk n X Y = true) (hk : k < n) : valZ n X Y (X k) = Y k := by
  have T := tabP_of ht
  rcases Nat.lt_or_ge (k + 1) n with h | h
  · rw [valZ_seg ht h (Int.le_refl _) (T.xs k h), mid_zero]
  · obtain rfl : k = n - 1 := by omega
    exact valZ_high ht (T.x_lt (by have := T.two; omega) hk) (Int.le_refl _)
theorem mid_bounds {n : Nat} {X Y : Nat → Int} {x : Int} {k : Nat} (T : TabP n X Y) (hk : k + 1 < n) (h1 : X k ≤ x) (h2 : x < X (k + 1)) : Y k ≤ midZ X Y x k ∧ midZ X Y x k ≤ Y (k + 1) := by
  have xb := T.x k (by omega)
  have xb' := T.x (k + 1) hk
  have yb := T.y k (by omega)
  have yb' := T.y (k + 1) hk
  have yy := T.ys k hk
  obtain ⟨m0, m1, m2, m3⟩ := mid_bd (x - X k) (Y (k + 1) - Y k) (X (k + 1) - X k) (by omega) (by omega) (by omega) (by omega) (by omega) (by omega)
  unfold midZ
  omega
theorem find_seg0 {n : Nat} {X : Nat → Int} {x : Int} (h0 : X 0 ≤ x) : ∀ m, m < n → x < X m → ∃ k, k + 1 ≤ m ∧ X k ≤ x ∧ x < X (k + 1) := by
  intro m
  induction m with
  | zero => intro _ h; omega
  | succ m ih =>
    intro hm hx
    by_cases h : X m ≤ x
    · exact ⟨m, by omega, h, hx⟩
    · obtain ⟨k, h1, h2, h3⟩ := ih (by omega) (by omega)
      exact ⟨k, by omega, h2, h3⟩
/-- Values do not fall. -/
theorem valZ_mono {n : Nat} {X Y : Nat → Int} {u v : Int} (ht : tabOk n X Y = true) (h0 : X 0 ≤ u) (huv : u ≤ v) (hv : v ≤ X (n - 1)) : valZ n X Y u ≤ valZ n X Y v := by
  have T := tabP_of ht
  have t2 := T.two
  rcases Int.lt_or_eq_of_le hv with hv | hv
  · obtain ⟨k, k1, k2, k3⟩ := find_seg0 (n := n) h0 (n - 1) (by omega) (by omega : u < X (n - 1))
    obtain ⟨l, l1, l2, l3⟩ := find_seg0 (n := n) (by omega : X 0 ≤ v) (n - 1) (by omega) hv
    rw [valZ_seg ht (by omega) k2 k3, valZ_seg ht (by omega) l2 l3]
    rcases Nat.lt_trichotomy k l with h | h | h
    · have a1 := (mid_bounds T (by omega) k2 k3).2
      have a2 := (mid_bounds T (by omega) l2 l3).1
      have a3 := T.y_le (i := k + 1) (j := l) (by omega) (by omega)
      omega
    · subst h
      unfold midZ
      have yy := T.ys k (by omega)
      have xx := T.xs k (by omega)
      have p : (u - X k) * (Y (k + 1) - Y k) ≤ (v - X k) * (Y (k + 1) - Y k) := Int.mul_le_mul_of_nonneg_right (by omega) (by omega)
      have := Int.ediv_le_ediv (c := X (k + 1) - X k) (by omega) p
      omega
    · exfalso
      rcases Nat.lt_or_ge (l + 1) k with h5 | h5
      · have := T.x_lt h5 (by omega); omega
      · rw [show k = l + 1 by omega] at k2; omega
  · subst hv
    rw [valZ_at ht (by omega)]
    rcases Int.lt_or_eq_of_le huv with h | h
    · obtain ⟨k, k1, k2, k3⟩ := find_seg0 (n := n) h0 (n - 1) (by omega) h
      rw [valZ_seg ht (by omega) k2 k3]
      have a1 := (mid_bounds T (by omega) k2 k3).2
      have a3 := T.y_le (i := k + 1) (j := n - 1) (by omega) (by omega)
      omega
    · rw [h, valZ_at ht (by omega)]
      exact Int.le_refl _

def leastFrom (f : Int → Bool) (lo : Int) : Nat → Int
  | 0 => lo
  | m + 1 => if f lo = true then lo else leastFrom f (lo + 1) m
theorem leastFrom_of (f : Int → Bool) (z : Int) (hz : f z = true) : ∀ (m : Nat) (lo : Int), lo ≤ z → z - lo ≤ m → (∀ u, lo ≤ u → u < z → f u = false) → leastFrom f lo m = z := by
  intro m
  induction m with
  | zero => intro lo h1 h2 _; unfold leastFrom; omega
  | succ m ih =>
    intro lo h1 h2 h3
    unfold leastFrom
    rcases Int.lt_or_eq_of_le h1 with h | h
    · rw [if_neg (by rw [h3 lo (Int.le_refl _) h]; decide)]
      exact ih (lo + 1) (by omega) (by omega) (fun u hu => h3 u (by omega))
    · subst h; rw [if_pos hz]
def placeB (n : Nat) (X Y : Nat → Int) (y : Int) : Bool := tabOk n X Y && decide (y ≤ Y (n - 1))
def placeZ (n : Nat) (X Y : Nat → Int) (y : Int) : Int := if placeB n X Y y = true then leastFrom (fun x => decide (y ≤ valZ n X Y x)) (X 0) (X (n - 1) - X 0).toNat else 0
theorem place_no {n : Nat} {X Y : Nat → Int} {y : Int} (h : placeB n X Y y = false) : placeZ n X Y y = 0 := by unfold placeZ; rw [if_neg (by rw [h]; decide)]
theorem place_of {n : Nat} {X Y : Nat → Int} {y z : Int} (h : placeB n X Y y = true) (h0 : X 0 ≤ z) (h9 : z ≤ X (n - 1)) (hz : y ≤ valZ n X Y z) (hlt : X 0 < z → valZ n X Y (z - 1) < y) : placeZ n X Y y = z := by
  unfold placeZ
  rw [if_pos h]
  have ht : tabOk n X Y = true := by unfold placeB at h; rw [Bool.and_eq_true] at h; exact h.1
  refine leastFrom_of _ z (decide_eq_true hz) _ _ h0 (by omega) (fun u hu hu' => decide_eq_false ?_)
  have h1 := hlt (by omega)
  have h2 := valZ_mono ht hu (by omega : u ≤ z - 1) (by omega)
  omega
/-- The place within a rising piece. -/
theorem place_mid {n : Nat} {X Y : Nat → Int} {y : Int} {k : Nat} (ht : tabOk n X Y = true) (hk : k + 1 < n) (h1 : Y k < y) (h2 : y ≤ Y (k + 1)) :
    placeZ n X Y y = X k + ((y - Y k) * (X (k + 1) - X k) + (Y (k + 1) - Y k) - 1) / (Y (k + 1) - Y k) := by
  have T := tabP_of ht
  have xx := T.xs k hk
  have xk := T.x k (by omega)
  generalize hd : X (k + 1) - X k = d
  generalize hr : Y (k + 1) - Y k = r
  generalize ha : y - Y k = a
  generalize hq : (a * d + r - 1) / r = t
  have r0 : 0 < r := by omega
  have d0 : 0 < d := by omega
  have e1 := Int.mul_ediv_add_emod (a * d + r - 1) r
  have e2 := Int.emod_nonneg (a * d + r - 1) (by omega : r ≠ 0)
  have e3 := Int.emod_lt_of_pos (a * d + r - 1) r0
  rw [hq] at e1
  have t1 : a * d ≤ r * t := by omega
  have t2 : r * (t - 1) < a * d := by rw [Int.mul_sub, Int.mul_one]; omega
  have ad1 : 0 < a * d := Int.mul_pos (by omega) d0
  have t3 : 0 < t := by
    refine Int.not_le.1 fun h => ?_
    have := Int.mul_le_mul_of_nonneg_left h (by omega : 0 ≤ r)
    rw [Int.mul_zero] at this
    omega
  have t4 : t ≤ d := by
    refine Int.not_lt.1 fun h => ?_
    have h5 : r * d ≤ r * (t - 1) := Int.mul_le_mul_of_nonneg_left (by omega) (by omega)
    have h6 : a * d ≤ r * d := Int.mul_le_mul_of_nonneg_right (by omega) (by omega)
    omega
  have hlast : Y (k + 1) ≤ Y (n - 1) := T.y_le (by omega) (by omega)
  have hx9 : X (k + 1) ≤ X (n - 1) := by
    rcases Nat.lt_or_ge (k + 1) (n - 1) with h | h
    · have := T.x_lt h (by omega); omega
    · rw [show n - 1 = k + 1 by omega]; exact Int.le_refl _
  have hx0 : X 0 ≤ X k := by
    rcases Nat.eq_zero_or_pos k with h | h
    · rw [h]; exact Int.le_refl _
    · have := T.x_lt h (by omega); omega
  refine place_of (by unfold placeB; rw [ht]; simp; omega) (by omega) (by omega) ?_ (fun _ => ?_)
  · rcases Int.lt_or_eq_of_le t4 with h | h
    · rw [valZ_seg ht hk (by omega) (by omega)]
      unfold midZ
      rw [hr, hd, show X k + t - X k = t by omega]
      have : a ≤ t * r / d := (Int.le_ediv_iff_mul_le d0).2 (by rw [Int.mul_comm t r]; exact t1)
      omega
    · rw [show X k + t = X (k + 1) by omega, valZ_at ht hk]
      exact h2
  · rw [valZ_seg ht hk (by omega) (by omega)]
    unfold midZ
    rw [hr, hd, show X k + t - 1 - X k = t - 1 by omega]
    have : (t - 1) * r / d < a := (Int.ediv_lt_iff_lt_mul d0).2 (by rw [Int.mul_comm (t - 1) r]; exact t2)
    omega
theorem place_low {n : Nat} {X Y : Nat → Int} {y : Int} (ht : tabOk n X Y = true) (h1 : y ≤ Y 0) : placeB n X Y y = true ∧ placeZ n X Y y = X 0 := by
  have T := tabP_of ht
  have t2 := T.two
  have hb : placeB n X Y y = true := by
    unfold placeB; rw [ht]
    have := T.y_le (i := 0) (j := n - 1) (by omega) (by omega)
    simp; omega
  have := T.x_lt (i := 0) (j := n - 1) (by omega) (by omega)
  exact ⟨hb, place_of hb (Int.le_refl _) (by omega) (by rw [valZ_at ht (by omega)]; exact h1) (fun h => by omega)⟩
end Go.Proofs.Ytngmpimoebggdaa.C1
