/-
  For every input the Go function 'laws.FnQuotients' returns true, and each argument reads afterwards as it read before. No further condition.
-/
import Derived.Test.YtafjichhahbihaaDraw
import Derived.Test.YtafjichhahbihaaLift
import Derived.Test.YtafjichhahbihaaOpen
namespace Go.Proofs.Ytafjichhahbihaa.fnQuotients
open Go.Proofs.Ytafjichhahbihaa.C1 Go.Proofs.Ytafjichhahbihaa.Lift Go.Proofs.Ytafjichhahbihaa.Opened
open Go.ChangeShapes Go.WideShapes Go.ChangeAt Go.RowKit
set_option linter.unusedVariables false

theorem quo_facts (a b : Int) (hb : 0 < b) : quoZ a b * b ≤ a ∧ a < (quoZ a b + 1) * b := by
  unfold quoZ
  rw [if_neg (by omega)]
  have h1 := Int.mul_ediv_add_emod a b
  have h2 := Int.emod_nonneg a (by omega : b ≠ 0)
  have h3 := Int.emod_lt_of_pos a hb
  have e1 : a / b * b = b * (a / b) := Int.mul_comm _ _
  have e2 : (a / b + 1) * b = b * (a / b) + b := by rw [Int.add_mul, Int.one_mul, Int.mul_comm]
  omega
theorem root_facts (n : Int) (h0 : 0 ≤ n) (h1 : n ≤ 1000000000000000000) : 0 ≤ rootZ n ∧ rootZ n * rootZ n ≤ n ∧ n < (rootZ n + 1) * (rootZ n + 1) := by
  obtain ⟨m, rfl⟩ := Int.eq_ofNat_of_zero_le h0
  obtain ⟨s1, s2⟩ := isq_spec m
  unfold rootZ; rw [if_neg (by omega), Int.toNat_natCast]
  exact ⟨by omega, by exact_mod_cast s1, by exact_mod_cast s2⟩
theorem below_facts (s n : Int) (h0 : 0 ≤ s) (h1 : s ≤ 65535) (h2 : 1 ≤ n) (h3 : n ≤ 4096) : below1 s n = nextZ s ∧ 0 ≤ below2 s n ∧ below2 s n < n := by
  have hb : belowOk s n := ⟨h0, h1, h2, h3⟩
  unfold below1 below2
  rw [if_pos hb, if_pos hb]
  exact ⟨rfl, Int.emod_nonneg _ (by omega), Int.emod_lt_of_pos _ (by omega)⟩
theorem quo_bd (a b : Int) (h0 : -30000 ≤ a) (h1 : a ≤ 100000) (hb : 0 < b) (hb' : b ≤ 256) : -30000 ≤ quoZ a b ∧ quoZ a b ≤ 100000 := by
  unfold quoZ
  rw [if_neg (by omega)]
  constructor
  · refine (Int.le_ediv_iff_mul_le hb).2 ?_
    omega
  · have : a / b < 100001 := (Int.ediv_lt_iff_lt_mul hb).2 (by omega)
    omega
theorem mul_bd (q b : Int) (h0 : -100001 ≤ q) (h1 : q ≤ 100001) (hb : 0 < b) (hb' : b ≤ 256) : -30000000 ≤ q * b ∧ q * b ≤ 30000000 := by
  constructor
  · have := Int.mul_le_mul_of_nonneg_right h0 (by omega : 0 ≤ b); omega
  · have := Int.mul_le_mul_of_nonneg_right h1 (by omega : 0 ≤ b); omega
theorem sq_small (r : Int) (h0 : 0 ≤ r) (h1 : r * r ≤ 20000000) : r ≤ 20000000 := by
  refine Int.not_lt.1 fun h => ?_
  have := Int.mul_le_mul (by omega : 1 ≤ r) (Int.le_refl r) h0 h0
  omega
theorem sq_next (r : Int) (h0 : 0 ≤ r) (h1 : r * r ≤ 20000000) : 0 ≤ (r + 1) * (r + 1) ∧ (r + 1) * (r + 1) ≤ 100000000 := by
  have := sq_small r h0 h1
  refine ⟨Int.mul_nonneg (by omega) (by omega), ?_⟩
  rw [Int.add_mul, Int.mul_add, Int.one_mul, Int.mul_one]
  omega
set_option maxHeartbeats 1000000 in
theorem walk (A : Option Addr) (n cap : Nat) (f : Nat → Int) (w : World) (hn : n ≤ 9223372036854775807) (hs : SrcB w A n f) :
    Calls Try.prog 4 #[.slice A n cap] w fun e w' => e = .returned (.bool true) ∧ Below w.heap.size w w' := by
  by_cases hbig : 1048576 < n
  · go_enter Try.func4, Try.ntmps4
    go_wp2_with (go_at_call 9; refine (big_yes _ _ _ _ hbig).mono ?_; rintro e w' ⟨rfl, rfl⟩)
    go_ret
    exact ⟨rfl, Below.refl _ _⟩
  have hl : n ≤ 1048576 := by omega
  have u0 := atZ_bd hs 0
  have u1 := atZ_bd hs 1
  have u2 := atZ_bd hs 2
  have u3 := atZ_bd hs 3
  have u4 := atZ_bd hs 4
  have u5 := atZ_bd hs 5
  have u6 := atZ_bd hs 6
  have q1 := quo_facts (atZ n f 0 * 256 + atZ n f 1 - 30000) (1 + atZ n f 2) (by omega)
  have q2 := quo_bd (atZ n f 0 * 256 + atZ n f 1 - 30000) (1 + atZ n f 2) (by omega) (by omega) (by omega) (by omega)
  have q3 := mul_bd (quoZ (atZ n f 0 * 256 + atZ n f 1 - 30000) (1 + atZ n f 2)) (1 + atZ n f 2) (by omega) (by omega) (by omega) (by omega)
  have q4 := mul_bd (quoZ (atZ n f 0 * 256 + atZ n f 1 - 30000) (1 + atZ n f 2) + 1) (1 + atZ n f 2) (by omega) (by omega) (by omega) (by omega)
  have r1 := root_facts (atZ n f 3 * 65536 + atZ n f 4 * 256 + atZ n f 5) (by omega) (by omega)
  have r2 := sq_small _ r1.1 (by omega)
  have r3 := sq_next _ r1.1 (by omega)
  obtain ⟨b1, b2, b3⟩ := below_facts (atZ n f 6) (1 + atZ n f 2) (by omega) (by omega) (by omega) (by omega)
  have r4 : rootZ (-1) = -1 := rootZ_neg _ (by omega)
  have HS := Lib.hid hs
  clear hs hbig
  go_enter Try.func4, Try.ntmps4
  have r5 : 0 ≤ rootZ (atZ n f 3 * 65536 + atZ n f 4 * 256 + atZ n f 5) * rootZ (atZ n f 3 * 65536 + atZ n f 4 * 256 + atZ n f 5) := Int.mul_nonneg r1.1 r1.1
  go_wp2_with fail
  refine (big_no _ _ _ _ hl).mono ?_; rintro e w' ⟨rfl, rfl⟩
  go_wp2_with (go_at_call 12; refine (at_law _ _ _ _ _ f hl (by omega) (by omega) HS.out).mono ?_; rintro e w' ⟨rfl, rfl⟩)
  refine (floor_impl _ _ _ (by omega) (by omega) (by omega)).mono ?_; rintro e w' ⟨rfl, rfl⟩
  go_wp2_with (go_at_call 12; refine (at_law _ _ _ _ _ f hl (by omega) (by omega) HS.out).mono ?_; rintro e w' ⟨rfl, rfl⟩)
  refine (root_impl _ _ (by omega) (by omega)).mono ?_; rintro e w' ⟨rfl, rfl⟩
  go_wp2_with (go_at_call 12; refine (at_law _ _ _ _ _ f hl (by omega) (by omega) HS.out).mono ?_; rintro e w' ⟨rfl, rfl⟩)
  refine (below_impl _ _ _ (by omega) (by omega) (by omega) (by omega)).mono ?_; rintro e w' ⟨rfl, kd, rfl⟩
  go_wp2_with (go_at_call 12; refine (at_law _ _ _ _ _ f hl (by omega) (by omega) (HS.out.below ((Below.refl _ _).drewN' _))).mono ?_; rintro e w' ⟨rfl, rfl⟩)
  refine (next_impl _ _ (by omega) (by omega)).mono ?_; rintro e w' ⟨rfl, rfl⟩
  go_wp2_with fail
  refine (root_impl _ _ (by omega) (by omega)).mono ?_; rintro e w' ⟨rfl, rfl⟩
  go_wp2
  go_ret
  exact ⟨rfl, (Below.refl _ _).drewN' _⟩

theorem own : ownKnob Try.prog.godebug = none := by kernel_rfl
theorem laid : laidOutB Try.prog = true := by kernel_rfl
theorem parOk : Try.f4.params.toList.all (fun t => Try.prog.readableRec t && decide (t < Try.prog.types.size)) = true := by kernel_rfl
set_option maxRecDepth 100000 in
theorem lifted (os : Os) (started : os.Started) (H : Type) (enc : TypeId × Value → H) :
    ReturnsInHanded {} Try.checked os 4 .any (Rows.fnQuotientsSpec.pre6 enc Try.prog Try.f4 Rows.fnQuotientsRow.domain false) (Rows.fnQuotientsSpec.post enc Try.prog Try.f4 false true false false) := by
  refine law_lifted (C := Try.checked) own started (by kernel_rfl) Try.func4 laid (fun t ht => by
      have h := List.all_eq_true.1 parOk t ht
      rw [Bool.and_eq_true] at h
      exact ⟨h.1, of_decide_eq_true h.2⟩) rfl Try.underlying4 rfl
    (fun xs hx => by
      rw [show Try.f4.params.toList.length = 1 from by rw [Try.params4]; rfl] at hx
      match xs, hx with
      | [d0], _ => rfl)
    (ChangeSpec.witness6 (enc := enc) (C := Try.checked) false ⟨#[], #[.slice none 0 0], []⟩ 8 (by kernel_rfl) (by kernel_rfl) (by kernel_rfl) (by kernel_rfl)) ?_
  intro W base args ds p hval0 hA0 _
  have hval : ∀ (j : Nat) t v, Try.f4.params[j]? = some t → args[j]? = some v → Value.okWide Try.prog W .any base t v := hval0
  have hA : DataW.TrodAll enc Try.prog W 0 (fun _ => true) true Try.f4.params.toList args.toList ds p := hA0
  clear hA0 hval0
  rw [Try.params4] at hA hval
  obtain ⟨v0, vs0, d0, ds0, p0, q0, hargs, rfl, rfl, h0, r0⟩ := trodAll_cons hA
  obtain ⟨rfl, rfl, rfl⟩ := trodAll_nil r0
  obtain rfl : args = #[v0] := by cases args; simp_all
  obtain ⟨A0, n0, c0, f0, rfl, x0, y0⟩ := slice_bytes Try.underlying22 (by kernel_rfl) Try.underlying5 (hval 0 22 _ rfl rfl) h0
  exact walk A0 n0 c0 f0 W x0 y0

/-- The statement. -/
theorem proved : Rows.FnQuotientsSaid :=
  OpenClaim.holds_of_wide 4 Try.f4 rfl rfl rfl rfl rfl rfl rfl ⟨rfl, rfl, rfl, rfl, rfl⟩ rfl rfl rfl rfl rfl (by kernel_rfl) Try.func4 (by kernel_rfl)
    (of_decide_eq_true (by kernel_rfl)) (by unfold Func.isWrapper; first | (rw [if_pos (by decide +kernel)]; kernel_rfl) | (rw [if_neg (by decide +kernel)]; exact ⟨rfl, rfl⟩))
    (fun os started H enc _ => lifted os started H enc)
#print axioms proved
end Go.Proofs.Ytafjichhahbihaa.fnQuotients
