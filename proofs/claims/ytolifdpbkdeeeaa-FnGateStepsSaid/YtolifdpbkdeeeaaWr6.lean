/- WantedFlow, of the program and of its model. -/
import Derived.Test.YtolifdpbkdeeeaaWr5
import Derived.RegionTactic
namespace Go.Proofs.Ytolifdpbkdeeeaa.C1
open Go.ChangeShapes Go.WideShapes Go.ChangeAt Go.RowKit
set_option linter.unusedVariables false

def ruleZ (x l h n : Int) : Int := max 0 (min (Int.tdiv (x * (n - l)) (h - l)) (2 * x))
set_option maxHeartbeats 1000000 in
theorem rform_one (x l m n : Int) (b2 b3 : Nat) (w : World) (x0 : 0 ≤ x) (x1 : x ≤ 1000000000) (l0 : 0 ≤ l) (h0 : l < m) (h1 : m ≤ 100000) (n0 : 0 ≤ n) (n1 : n ≤ 100000) (p0 : -100000000000000 ≤ x * (n - l)) (p1 : x * (n - l) ≤ 100000000000000)
    (q0 : -100000000000000 ≤ Int.tdiv (x * (n - l)) (m - l)) (q1 : Int.tdiv (x * (n - l)) (m - l) ≤ 100000000000000)
    (c0 : w.cell? ⟨b2, 0, none⟩ = some (.int .i64 x)) (c1 : w.cell? ⟨b3, 0, none⟩ = some (.int .i64 l)) (c2 : w.cell? ⟨b3, 1, none⟩ = some (.int .i64 m)) :
    Calls Try.prog 120 #[.int .i64 n, .pointer (some ⟨b2, 0, none⟩), .pointer (some ⟨b3, 0, none⟩)] w fun e w' => e = .returned (.int .i64 (ruleZ x l m n)) ∧ Below w.heap.size w w' := by
  have a1 : IntKind.i64.wrap (n - l) = n - l := IntWalk.i64_in _ (by omega)
  have a2 : IntKind.i64.wrap (x * (n - l)) = x * (n - l) := IntWalk.i64_in _ (by omega)
  have a3 : IntKind.i64.wrap (m - l) = m - l := IntWalk.i64_in _ (by omega)
  have a4 : IntKind.i64.wrap (2 * x) = 2 * x := IntWalk.i64_in _ (by omega)
  have a5 : IntKind.i64.wrap (Int.tdiv (x * (n - l)) (m - l)) = Int.tdiv (x * (n - l)) (m - l) := IntWalk.i64_in _ (by omega)
  have a6 : ((m - l) == 0) = false := by simp; omega
  go_enter Try.func120, Try.ntmps120
  go_wp2
  go_quiet (fail)
  go_wp2
  all_goals
    go_ret
    refine ⟨ret_int ?_, (Below.refl _ _).drewN' _⟩
    unfold ruleZ
    clear a1 a2 a3 a4 a5 a6
    generalize Int.tdiv (x * (n - l)) (m - l) = q at *
    omega
theorem rform (U : Ru) (x : Int) (w : World) :
    Calls Try.prog 89 #[.agg #[.int .i64 U.l, .int .i64 U.h, .int .i64 U.f], .int .i64 x] w fun e w' => e = .returned (.func (Fn.func 120) #[] #[.pointer (some ⟨w.heap.size + 1, 0, none⟩), .pointer (some ⟨w.heap.size, 0, none⟩)]) ∧
      w'.cell? ⟨w.heap.size + 1, 0, none⟩ = some (.int .i64 x) ∧ w'.cell? ⟨w.heap.size, 0, none⟩ = some (.int .i64 U.l) ∧ w'.cell? ⟨w.heap.size, 1, none⟩ = some (.int .i64 U.h) ∧ Below w.heap.size w w' := by
  go_enter Try.func89, Try.ntmps89
  go_wp2
  go_ret
  exact ⟨rfl, by simp, by simp, by simp, by (repeat' (first | (with_reducible exact Below.refl _ _) | (with_reducible refine Below.drew ?_) | (with_reducible refine Below.alloc ?_ ?_ _) | (with_reducible refine Below.setCell ?_ ?_ _) | (first | omega | (simp; omega) | (simp; done))))⟩
theorem tdiv_bds {p d : Int} (hd : 0 < d) : (0 ≤ p → Int.tdiv p d = p / d ∧ 0 ≤ p / d ∧ p / d ≤ p) ∧ (p ≤ 0 → p ≤ Int.tdiv p d ∧ Int.tdiv p d ≤ 0) := by
  have key : ∀ q : Int, 0 ≤ q → Int.tdiv q d = q / d ∧ 0 ≤ q / d ∧ q / d ≤ q := fun q hq => ⟨Int.tdiv_eq_ediv_of_nonneg hq, Int.ediv_nonneg hq (by omega), Int.ediv_le_self _ hq⟩
  refine ⟨key p, fun h => ?_⟩
  obtain ⟨a, b, c⟩ := key (-p) (by omega)
  rw [Int.neg_tdiv] at a
  omega
theorem rule_want {x l h n : Int} (x0 : 0 ≤ x) (h0 : l < h) : ruleZ x l h n = if l < n then min (2 * x) (x * (n - l) / (h - l)) else 0 := by
  obtain ⟨t1, t2⟩ := tdiv_bds (p := x * (n - l)) (d := h - l) (by omega)
  unfold ruleZ
  by_cases hn : l < n
  · rw [if_pos hn]
    have hp : 0 ≤ x * (n - l) := Int.mul_nonneg x0 (by omega)
    have := t1 hp
    omega
  · rw [if_neg hn]
    have hp : x * (n - l) ≤ 0 := by
      have := Int.mul_nonneg x0 (show 0 ≤ l - n by omega)
      have e : x * (l - n) = -(x * (n - l)) := by rw [← Int.mul_neg]; congr 1; omega
      omega
    have := t2 hp
    omega
theorem want_bds {x l h n : Int} (x0 : 0 ≤ x) (x1 : x ≤ 1000000000) (l0 : 0 ≤ l) (h0 : l < h) (h1 : h ≤ 100000) (n0 : 0 ≤ n) (n1 : n ≤ 100000) :
    (-100000000000000 ≤ x * (n - l) ∧ x * (n - l) ≤ 100000000000000) ∧ (-100000000000000 ≤ Int.tdiv (x * (n - l)) (h - l) ∧ Int.tdiv (x * (n - l)) (h - l) ≤ 100000000000000) ∧ (l < n → 0 ≤ x * (n - l) ∧ 0 ≤ x * (n - l) / (h - l) ∧ x * (n - l) / (h - l) ≤ 100000000000000) := by
  have a : x * (n - l) ≤ 100000000000000 := by
    have := Int.mul_le_mul_of_nonneg_left (show n - l ≤ 100000 by omega) x0
    omega
  have b : -100000000000000 ≤ x * (n - l) := by
    have := Int.mul_le_mul_of_nonneg_left (show -100000 ≤ n - l by omega) x0
    omega
  obtain ⟨t1, t2⟩ := tdiv_bds (p := x * (n - l)) (d := h - l) (by omega)
  refine ⟨⟨b, a⟩, ?_, fun hn => ?_⟩
  · rcases Int.le_total 0 (x * (n - l)) with hh | hh
    · have := t1 hh; omega
    · have := t2 hh; omega
  · have hp : 0 ≤ x * (n - l) := Int.mul_nonneg x0 (by omega)
    have := t1 hp
    omega
theorem want_cases (U : Ru) (level x : Int) : (uOk U = false ∧ wantZ U level x = 0) ∨ (uOk U = true ∧ inB x 0 1000000000 = false ∧ wantZ U level x = 0) ∨ (uOk U = true ∧ inB x 0 1000000000 = true ∧ inB level 0 100000 = false ∧ wantZ U level x = 0) ∨
    (uOk U = true ∧ inB x 0 1000000000 = true ∧ inB level 0 100000 = true ∧ wantZ U level x = if U.l < level then min (2 * x) (x * (level - U.l) / (U.h - U.l)) else 0) := by
  unfold wantZ wantB
  cases uOk U <;> cases inB x 0 1000000000 <;> cases inB level 0 100000 <;> simp
set_option maxHeartbeats 1000000 in
theorem want_impl (U : Ru) (level x : Int) (w : World) : Calls Try.prog 40 #[.agg #[.int .i64 U.l, .int .i64 U.h, .int .i64 U.f], .int .i64 level, .int .i64 x] w fun e w' => e = .returned (.int .i64 (wantZ U level x)) ∧ Below w.heap.size w w' := by
  have HB0 := Lib.hid ((Below.refl w.heap.size w).alloc (Nat.le_refl _) (.cells #[.int .i64 U.l, .int .i64 U.h, .int .i64 U.f] 55))
  go_enter Try.func40, Try.ntmps40
  go_wp2_with fail
  refine (uok_impl U _).mono ?_
  rintro e w1 ⟨rfl, hb1⟩
  have HB1 := Lib.hid (HB0.out.trans (hb1.mono (by simp)))
  have HX := Lib.hid ((Box.new w (.int .i64 U.l) (.int .i64 U.h) (.int .i64 U.f) 55).below hb1)
  have q1 : w.heap.size < w1.heap.size := by have := hb1.size; simp at this; omega
  clear hb1
  rcases want_cases U level x with ⟨h, hs⟩ | ⟨h, h1, hs⟩ | ⟨h, h1, h2, hs⟩ | ⟨h, h1, h2, hs⟩
  · have HS := Lib.hid hs
    rw [h]
    clear h hs
    go_wp2
    go_ret
    exact ⟨ret_int HS.out.symm, HB1.out⟩
  · have HS := Lib.hid hs
    rw [h]
    clear h hs
    go_wp2_with (go_at_call 71; refine (amount_impl _ _).mono ?_; rintro e w' ⟨rfl, rfl⟩)
    go_ret
    exact ⟨ret_int HS.out.symm, HB1.out⟩
  · have HS := Lib.hid hs
    rw [h]
    clear h hs
    go_wp2_with (first | (go_at_call 71; refine (amount_impl _ _).mono ?_; rintro e w' ⟨rfl, rfl⟩) | (go_at_call 82; refine (lev_impl _ _).mono ?_; rintro e w' ⟨rfl, rfl⟩))
    go_ret
    exact ⟨ret_int HS.out.symm, HB1.out⟩
  · have HS := Lib.hid hs
    obtain ⟨l0, h0, f0, f1⟩ := uOk_iff.1 h
    obtain ⟨i0, i1⟩ := inB_iff.1 h1
    obtain ⟨n0, n1⟩ := inB_iff.1 h2
    obtain ⟨⟨b0, b1⟩, ⟨b2, b3⟩, b4⟩ := want_bds i0 i1 l0 h0 (by omega) n0 n1
    have HW := Lib.hid (rule_want (n := level) i0 h0)
    rw [h]
    clear h hs b4
    obtain ⟨x0, x1, x2⟩ := HX.out.at
    go_wp2_with (first | (go_at_call 71; refine (amount_impl _ _).mono ?_; rintro e w' ⟨rfl, rfl⟩) | (go_at_call 82; refine (lev_impl _ _).mono ?_; rintro e w' ⟨rfl, rfl⟩))
    refine (rform U x _).mono ?_
    rintro e w2 ⟨rfl, k0, k1, k2, hb2⟩
    have HB2 := Lib.hid (HB1.out.trans (hb2.mono (by omega)))
    clear hb2
    go_wp2_with fail
    refine (rform_one _ _ _ _ _ _ _ i0 i1 l0 h0 (by omega) n0 n1 b0 b1 b2 b3 k0 k1 k2).mono ?_
    rintro e w3 ⟨rfl, hb3⟩
    have HB3 := Lib.hid (HB2.out.trans (hb3.mono HB2.out.size))
    clear hb3
    go_wp2
    go_ret
    exact ⟨ret_int (by rw [HS.out, HW.out]), HB3.out⟩
set_option maxHeartbeats 1000000 in
theorem want_spec (U : Ru) (level x : Int) (w : World) : Calls Try.prog 59 #[.agg #[.int .i64 U.l, .int .i64 U.h, .int .i64 U.f], .int .i64 level, .int .i64 x] w fun e w' => e = .returned (.int .i64 (wantZ U level x)) ∧ Below w.heap.size w w' := by
  have HB0 := Lib.hid ((Below.refl w.heap.size w).alloc (Nat.le_refl _) (.cells #[.int .i64 U.l, .int .i64 U.h, .int .i64 U.f] 55))
  go_enter Try.func59, Try.ntmps59
  go_wp2_with fail
  refine (uok_spec U _).mono ?_
  rintro e w1 ⟨rfl, hb1⟩
  have HB1 := Lib.hid (HB0.out.trans (hb1.mono (by simp)))
  have HX := Lib.hid ((Box.new w (.int .i64 U.l) (.int .i64 U.h) (.int .i64 U.f) 55).below hb1)
  have q1 : w.heap.size < w1.heap.size := by have := hb1.size; simp at this; omega
  clear hb1
  rcases want_cases U level x with ⟨h, hs⟩ | ⟨h, h1, hs⟩ | ⟨h, h1, h2, hs⟩ | ⟨h, h1, h2, hs⟩
  · have HS := Lib.hid hs
    rw [h]
    clear h hs
    go_wp2
    go_ret
    exact ⟨ret_int HS.out.symm, HB1.out⟩
  · have HS := Lib.hid hs
    rw [h]
    clear h hs
    go_wp2_with (go_at_call 106; refine (in_spec _ _ _ _).mono ?_; rintro e w' ⟨rfl, rfl⟩)
    go_ret
    exact ⟨ret_int HS.out.symm, HB1.out⟩
  · have HS := Lib.hid hs
    rw [h]
    clear h hs
    go_wp2_with (first | (go_at_call 106; refine (in_spec _ _ _ _).mono ?_; rintro e w' ⟨rfl, rfl⟩) | (go_at_call 107; refine (lev_spec _ _).mono ?_; rintro e w' ⟨rfl, rfl⟩))
    go_ret
    exact ⟨ret_int HS.out.symm, HB1.out⟩
  · obtain ⟨l0, h0, f0, f1⟩ := uOk_iff.1 h
    obtain ⟨i0, i1⟩ := inB_iff.1 h1
    obtain ⟨n0, n1⟩ := inB_iff.1 h2
    obtain ⟨x0, x1, x2⟩ := HX.out.at
    by_cases hn : U.l < level
    · rw [if_pos hn] at hs
      have HS := Lib.hid hs
      obtain ⟨_, _, b4⟩ := want_bds i0 i1 l0 h0 (by omega) n0 n1
      obtain ⟨b4, b5, b6⟩ := b4 hn
      have HT := Lib.hid ((tdiv_bds (p := x * (level - U.l)) (d := U.h - U.l) (by omega)).1 b4).1
      rw [h]
      clear h hs
      go_wp2_with (first | (go_at_call 106; refine (in_spec _ _ _ _).mono ?_; rintro e w' ⟨rfl, rfl⟩) | (go_at_call 107; refine (lev_spec _ _).mono ?_; rintro e w' ⟨rfl, rfl⟩))
      all_goals
        go_ret
        exact ⟨ret_int (by rw [HS.out]; have := HT.out; omega), HB1.out⟩
    · rw [if_neg hn] at hs
      have HS := Lib.hid hs
      have hn' : level ≤ U.l := by omega
      rw [h]
      clear h hs hn
      go_wp2_with (first | (go_at_call 106; refine (in_spec _ _ _ _).mono ?_; rintro e w' ⟨rfl, rfl⟩) | (go_at_call 107; refine (lev_spec _ _).mono ?_; rintro e w' ⟨rfl, rfl⟩))
      go_ret
      exact ⟨ret_int HS.out.symm, HB1.out⟩
end Go.Proofs.Ytolifdpbkdeeeaa.C1
