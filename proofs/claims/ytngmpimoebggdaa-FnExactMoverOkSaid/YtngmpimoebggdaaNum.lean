/- Contracts of the number functions of chapter 1 (Clamp, FloorDiv, RootOf, NextRandom, RandomBelow), of the program and of its model: each returns the value of one plain function. -/
import Derived.Test.YtngmpimoebggdaaRows
import Derived.WalkKit
import Derived.ProofKit
import Derived.OpenShut
import Derived.Outline
import Derived.Lib.Hide
import Derived.Deep.QuietTactic
import Derived.BigQuiet
namespace Go.Proofs.Ytngmpimoebggdaa.C1
open Go.ChangeShapes Go.WideShapes Go.ChangeAt Go.RowKit
set_option linter.unusedVariables false

theorem _root_.Go.RowKit.Below.drewN' {B : Nat} {a w : World} (h : Below B a w) (k : Nat) : Below B a (w.drewN k) := h.trans ⟨rfl, rfl, rfl, Nat.le_refl _, fun _ _ => rfl⟩
theorem quiet_l {P : Program} {f : FuncId} {args : Array Value} {w : World} {n : Nat} {v : Value}
    (h : Calls P f args (w.drewN n) fun e w' => e = .returned v ∧ w.drewN n = w') : Calls P f args (w.drewN n) fun e w'' => e = .returned v ∧ ∃ m, w'' = w.drewN m :=
  h.mono fun _ _ ⟨he, hm⟩ => ⟨he, n, hm.symm⟩
theorem ret_int {k : IntKind} {a b : Int} (h : a = b) : Ending.returned (.int k a) = .returned (.int k b) := by rw [h]

def clampZ (n lo hi : Int) : Int := if hi < lo then lo else if n < lo then lo else if hi < n then hi else n

theorem clamp_impl (n lo hi : Int) (w : World) :
    Calls Try.prog 210 #[.int .i64 n, .int .i64 lo, .int .i64 hi] w fun e w' => e = .returned (.int .i64 (clampZ n lo hi)) ∧ w = w' := by
  go_enter Try.func210, Try.ntmps210
  go_wp2
  all_goals
    go_ret
    exact ⟨ret_int (by unfold clampZ; repeat' split <;> omega), rfl⟩

def quoZ (a b : Int) : Int := if b ≤ 0 then 0 else a / b
theorem ediv_of (a b q : Int) (hb : 0 < b) (h1 : b * q ≤ a) (h2 : a < b * q + b) : a / b = q := by
  have e1 : q ≤ a / b := (Int.le_ediv_iff_mul_le hb).2 (by rw [Int.mul_comm]; exact h1)
  have e2 : a / b < q + 1 := (Int.ediv_lt_iff_lt_mul hb).2 (by rw [Int.add_mul, Int.one_mul, Int.mul_comm q b]; exact h2)
  omega
theorem quo_neg (a b : Int) (hb : 0 < b) (h : a.tmod b < 0) : a.tdiv b - 1 = a / b := by
  have h1 := Int.mul_tdiv_add_tmod a b
  have h2 := Int.lt_tmod_of_pos a hb
  exact (ediv_of a b _ hb (by rw [Int.mul_sub]; omega) (by rw [Int.mul_sub]; omega)).symm
theorem quo_pos (a b : Int) (hb : 0 < b) (h : 0 ≤ a.tmod b) : a.tdiv b = a / b := by
  have h1 := Int.mul_tdiv_add_tmod a b
  have h2 := Int.tmod_lt_of_pos a hb
  exact (ediv_of a b _ hb (by omega) (by omega)).symm
theorem ediv_bd (a b : Int) (ha : -9223372036854775808 ≤ a) (ha' : a ≤ 9223372036854775807) (hb : 0 < b) : -9223372036854775808 ≤ a / b ∧ a / b ≤ 9223372036854775807 := by
  constructor
  · refine (Int.le_ediv_iff_mul_le hb).2 ?_
    omega
  · have : a / b < 9223372036854775808 := by
      refine (Int.ediv_lt_iff_lt_mul hb).2 ?_
      omega
    omega
theorem quo_wrap (a b : Int) (ha : -9223372036854775808 ≤ a) (ha' : a ≤ 9223372036854775807) (hb : 0 < b) (h : a.tmod b < 0) : wrap64 (a.tdiv b - 1) = a / b := by
  rw [quo_neg a b hb h]
  exact IntWalk.wrap64_in _ (ediv_bd a b ha ha' hb)
theorem quo_if (a b : Int) (hb : 0 < b) : a / b = quoZ a b := by unfold quoZ; rw [if_neg (by omega)]

/-! The greatest number whose square is at most n. -/
def isq : Nat → Nat
  | 0 => 0
  | n + 1 => if (isq n + 1) * (isq n + 1) ≤ n + 1 then isq n + 1 else isq n
theorem isq_spec (n : Nat) : isq n * isq n ≤ n ∧ n < (isq n + 1) * (isq n + 1) := by
  induction n with
  | zero => exact ⟨Nat.le_refl _, by decide⟩
  | succ n ih =>
    obtain ⟨h1, h2⟩ := ih
    unfold isq
    split
    · rename_i h
      refine ⟨h, ?_⟩
      have : (isq n + 1) * (isq n + 1) < (isq n + 1 + 1) * (isq n + 1 + 1) := Nat.mul_lt_mul'' (by omega) (by omega)
      have e : (isq n + 1 + 1) * (isq n + 1 + 1) = (isq n + 1) * (isq n + 1) + 2 * (isq n + 1) + 1 := by
        rw [Nat.add_mul, Nat.mul_add]; omega
      omega
    · omega
def rootZ (n : Int) : Int := if n < 0 ∨ 1000000000000000000 < n then -1 else (isq n.toNat : Int)
theorem sq_lt {a b : Int} (ha : 0 ≤ a) (hb : 0 ≤ b) (h : a * a < b * b) : a < b := by
  refine Int.not_le.1 fun hle => ?_
  have h1 : b * b ≤ a * a := Int.mul_le_mul hle hle hb (by omega)
  omega
theorem rootZ_of (n r : Int) (h0 : 0 ≤ n) (h1 : n ≤ 1000000000000000000) (hr : 0 ≤ r) (h2 : r * r ≤ n) (h3 : n < (r + 1) * (r + 1)) : r = rootZ n := by
  obtain ⟨m, rfl⟩ := Int.eq_ofNat_of_zero_le h0
  obtain ⟨s1, s2⟩ := isq_spec m
  unfold rootZ; rw [if_neg (by omega), Int.toNat_natCast]
  have s1' : (isq m : Int) * (isq m : Int) ≤ m := by exact_mod_cast s1
  have s2' : (m : Int) < ((isq m : Int) + 1) * ((isq m : Int) + 1) := by exact_mod_cast s2
  have a1 := sq_lt (a := r) (b := (isq m : Int) + 1) hr (by omega) (by omega)
  have a2 := sq_lt (a := (isq m : Int)) (b := r + 1) (by omega) (by omega) (by omega)
  omega
theorem rootZ_neg (n : Int) (h : n < 0 ∨ 1000000000000000000 < n) : rootZ n = -1 := by unfold rootZ; rw [if_pos h]
theorem sq_bd (a : Int) (h0 : 0 ≤ a) (h1 : a ≤ 1000000001) : 0 ≤ a * a ∧ a * a ≤ 1000000002000000001 := by
  have := Int.mul_le_mul h1 h1 h0 (by omega)
  exact ⟨Int.mul_nonneg h0 h0, by omega⟩



def inB (x l h : Int) : Bool := decide (l ≤ x ∧ x ≤ h)
theorem inB_yes {x l h : Int} (h1 : l ≤ x) (h2 : x ≤ h) : inB x l h = true := by unfold inB; exact decide_eq_true ⟨h1, h2⟩
theorem inB_no {x l h : Int} (h1 : x < l ∨ h < x) : inB x l h = false := by unfold inB; exact decide_eq_false (by omega)
theorem inB_iff {x l h : Int} : inB x l h = true ↔ l ≤ x ∧ x ≤ h := by unfold inB; exact decide_eq_true_iff
theorem ret_bool {a b : Bool} (h : a = b) : Ending.returned (.bool a) = .returned (.bool b) := by rw [h]
theorem in_spec (x l h : Int) (w : World) :
    Calls Try.prog 65 #[.int .i64 x, .int .i64 l, .int .i64 h] w fun e w' => e = .returned (.bool (inB x l h)) ∧ w = w' := by
  by_cases h1 : l ≤ x
  · by_cases h2 : x ≤ h
    · go_enter Try.func65, Try.ntmps65
      go_wp2
      go_ret
      exact ⟨ret_bool (inB_yes h1 h2).symm, rfl⟩
    · have h2' : h < x := by omega
      go_enter Try.func65, Try.ntmps65
      go_wp2
      go_ret
      exact ⟨ret_bool (inB_no (Or.inr h2')).symm, rfl⟩
  · have h1' : x < l := by omega
    go_enter Try.func65, Try.ntmps65
    go_wp2
    go_ret
    exact ⟨ret_bool (inB_no (Or.inl h1')).symm, rfl⟩

def nextZ (s : Int) : Int := if s < 0 ∨ 65535 < s then 0 else (s * 25173 + 13849) % 65536
theorem and_i64_nat (a k : Nat) (ha : a < 9223372036854775808) (hk : k ≤ 62) :
    bits .and .i64 (a : Int) ((2 ^ k - 1 : Nat) : Int) = ((a % 2 ^ k : Nat) : Int) := by
  have hp : 2 ^ k ≤ 2 ^ 62 := Nat.pow_le_pow_right (by decide) hk
  have hp0 : 0 < 2 ^ k := Nat.two_pow_pos k
  have h1 : (BitVec.ofInt 64 (a : Int)).toNat = a := by
    rw [BitVec.ofInt_natCast, BitVec.toNat_ofNat]; exact Nat.mod_eq_of_lt (by omega)
  have h2 : (BitVec.ofInt 64 ((2 ^ k - 1 : Nat) : Int)).toNat = 2 ^ k - 1 := by
    rw [BitVec.ofInt_natCast, BitVec.toNat_ofNat]; exact Nat.mod_eq_of_lt (by omega)
  show IntKind.i64.wrap ((BitVec.ofInt 64 (a : Int) &&& BitVec.ofInt 64 ((2 ^ k - 1 : Nat) : Int)).toNat : Int) = _
  rw [BitVec.toNat_and, h1, h2, Nat.and_two_pow_sub_one_eq_mod]
  have := Nat.mod_lt a hp0
  exact IntWalk.i64_in _ ⟨by omega, by omega⟩
theorem and_65535 (x : Int) (h0 : 0 ≤ x) (h1 : x ≤ 9223372036854775807) : bits .and .i64 x 65535 = x % 65536 := by
  obtain ⟨n, rfl⟩ := Int.eq_ofNat_of_zero_le h0
  have := and_i64_nat n 16 (by omega) (by decide)
  simpa using this
theorem nextZ_bd (s : Int) : 0 ≤ nextZ s ∧ nextZ s ≤ 65535 := by unfold nextZ; split <;> omega
def belowOk (s n : Int) : Prop := 0 ≤ s ∧ s ≤ 65535 ∧ 1 ≤ n ∧ n ≤ 4096
instance (s n : Int) : Decidable (belowOk s n) := by unfold belowOk; infer_instance
def below1 (s n : Int) : Int := if belowOk s n then nextZ s else 0
def below2 (s n : Int) : Int := if belowOk s n then nextZ s / 16 % n else 0
theorem ret_ints {a b c d : Int} (h : a = b) (h' : c = d) : Ending.returned (.tuple #[.int .i64 a, .int .i64 c]) = .returned (.tuple #[.int .i64 b, .int .i64 d]) := by rw [h, h']
end Go.Proofs.Ytngmpimoebggdaa.C1
