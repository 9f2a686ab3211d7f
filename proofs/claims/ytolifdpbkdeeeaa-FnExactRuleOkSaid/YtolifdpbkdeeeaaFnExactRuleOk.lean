/-
  For every input the Go function 'laws.FnExactRuleOk' returns true, and each argument reads afterwards as it read before. No further condition.
-/
import Derived.Test.YtolifdpbkdeeeaaWr9
import Derived.Test.YtolifdpbkdeeeaaOpenW
import Derived.Test.YtolifdpbkdeeeaaLift
import Derived.Test.YtolifdpbkdeeeaaOpen
import Derived.ChangeMaps5
namespace Go.Proofs.Ytolifdpbkdeeeaa.fnExactRuleOk
open Go.Proofs.Ytolifdpbkdeeeaa.C1 Go.Proofs.Ytolifdpbkdeeeaa.Lift Go.Proofs.Ytolifdpbkdeeeaa.Opened
open Go.ChangeShapes Go.WideShapes Go.ChangeAt Go.RowKit Go.ChangeMaps
set_option linter.unusedVariables false

set_option maxHeartbeats 1000000 in
theorem walk (U0 : Ru) (w : World) :
    Calls Try.prog 14 #[.agg #[.int .i64 U0.l, .int .i64 U0.h, .int .i64 U0.f]] w fun e w' => e = .returned (.bool true) ∧ Below w.heap.size w w' := by
  have HB0 := Lib.hid ((Below.refl w.heap.size w).alloc (Nat.le_refl _) (.cells #[.int .i64 U0.l, .int .i64 U0.h, .int .i64 U0.f] 76))
  have HX0 := Lib.hid (Box.new w (.int .i64 U0.l) (.int .i64 U0.h) (.int .i64 U0.f) 76)
  go_enter Try.func14, Try.ntmps14
  go_wp2_with fail
  refine (toRule U0 _).mono ?_
  rintro e w1 ⟨rfl, hb1⟩
  have HB1 := Lib.hid (HB0.out.trans (hb1.mono (by simp)))
  have HX1 := Lib.hid (HX0.out.below hb1)
  have q1 := HX1.out.lt
  clear hb1 HX0
  go_wp2_with fail
  refine (uok_spec U0  _).mono ?_
  rintro e w2 ⟨rfl, hb2⟩
  have HB2 := Lib.hid (HB1.out.trans (hb2.mono HB1.out.size))
  have HX2 := Lib.hid (HX1.out.below hb2)
  have q2 := HX2.out.lt
  clear hb2 HX1
  obtain ⟨x0, x1, x2⟩ := HX2.out.at
  go_wp2_with fail
  refine (toRule U0 _).mono ?_
  rintro e w3 ⟨rfl, hb3⟩
  have hb3' := hb3
  have HB3 := Lib.hid (HB2.out.trans (hb3'.mono HB2.out.size))
  clear hb3 hb3' HX2 x0 x1 x2
  go_wp2_with fail
  refine (uok_impl U0  _).mono ?_
  rintro e w4 ⟨rfl, hb4⟩
  have HB4 := Lib.hid (HB3.out.trans (hb4.mono HB3.out.size))
  clear hb4
  go_wp2
  go_ret
  exact ⟨rfl, HB4.out⟩

theorem parOk : Try.f14.params.toList.all (fun t => Try.prog.readableRec t && decide (t < Try.prog.types.size)) = true := by kernel_rfl
set_option maxRecDepth 100000 in
theorem lifted (os : Os) (started : os.Started) (H : Type) (enc : TypeId × Value → H) :
    ReturnsInHanded {} Try.checked os 14 .any (Rows.fnExactRuleOkSpec.pre6 enc Try.prog Try.f14 Rows.fnExactRuleOkRow.domain false) (Rows.fnExactRuleOkSpec.post enc Try.prog Try.f14 false true false false) := by
  refine law_lifted (C := Try.checked) own started (by kernel_rfl) Try.func14 laid (fun t ht => by
      have h := List.all_eq_true.1 parOk t ht
      rw [Bool.and_eq_true] at h
      exact ⟨h.1, of_decide_eq_true h.2⟩) rfl Try.underlying4 rfl
    (fun xs hx => by
      rw [show Try.f14.params.toList.length = 1 from by rw [Try.params14]; rfl] at hx
      match xs, hx with
      | [d0], _ => rfl)
    (ChangeSpec.witness6 (enc := enc) (C := Try.checked) false ⟨#[], #[.agg #[.int .i64 0, .int .i64 0, .int .i64 0]], []⟩ 8 (by kernel_rfl) (by kernel_rfl) (by kernel_rfl) (by kernel_rfl)) ?_
  intro W base args ds p hval0 hA0 _
  have hval : ∀ (j : Nat) t v, Try.f14.params[j]? = some t → args[j]? = some v → Value.okWide Try.prog W .any base t v := hval0
  have hA : DataW.TrodAll enc Try.prog W 0 (fun _ => true) true Try.f14.params.toList args.toList ds p := hA0
  clear hA0 hval0
  rw [Try.params14] at hA hval
  obtain ⟨v0, vs0, d0, ds0, p0, q0, hargs, rfl, rfl, h0, r0⟩ := trodAll_cons hA
  obtain ⟨rfl, rfl, rfl⟩ := trodAll_nil r0
  obtain rfl : args = #[v0] := by cases args; simp_all
  obtain ⟨U0, rfl⟩ := open_rule (hval 0 76 _ rfl rfl) h0
  exact walk U0 W 

/-- The statement. -/
theorem proved : Rows.FnExactRuleOkSaid :=
  OpenClaim.holds_of_wide 14 Try.f14 rfl rfl rfl rfl rfl rfl rfl ⟨rfl, rfl, rfl, rfl, rfl⟩ rfl rfl rfl rfl rfl (by kernel_rfl) Try.func14 (by kernel_rfl)
    (of_decide_eq_true (by kernel_rfl)) (by unfold Func.isWrapper; first | (rw [if_pos (by decide +kernel)]; kernel_rfl) | (rw [if_neg (by decide +kernel)]; exact ⟨rfl, rfl⟩))
    (fun os started H enc _ => lifted os started H enc)
#print axioms proved
end Go.Proofs.Ytolifdpbkdeeeaa.fnExactRuleOk
