/-
  For every input the Go function 'laws.FnExactGateFlow' returns true, and each argument reads afterwards as it read before. No further condition.
-/
import Derived.Test.YtolifdpbkdeeeaaWr9
import Derived.Test.YtolifdpbkdeeeaaOpenW
import Derived.Test.YtolifdpbkdeeeaaLift
import Derived.Test.YtolifdpbkdeeeaaOpen
import Derived.ChangeMaps5
namespace Go.Proofs.Ytolifdpbkdeeeaa.fnExactGateFlow
open Go.Proofs.Ytolifdpbkdeeeaa.C1 Go.Proofs.Ytolifdpbkdeeeaa.Lift Go.Proofs.Ytolifdpbkdeeeaa.Opened
open Go.ChangeShapes Go.WideShapes Go.ChangeAt Go.RowKit Go.ChangeMaps
set_option linter.unusedVariables false

set_option maxHeartbeats 1000000 in
theorem walk (V0 : Wr) (a1 : Int) (a2 : Int) (w : World) (_ : (Lit.int .i64 a1).wf = true) (_ : (Lit.int .i64 a2).wf = true) :
    Calls Try.prog 11 #[.agg #[.int .i64 V0.g, .int .i64 V0.o, .int .i64 V0.s, .int .i64 V0.k, .int .i64 V0.w], .int .i64 a1, .int .i64 a2] w fun e w' => e = .returned (.bool true) ∧ Below w.heap.size w w' := by
  have HB0 := Lib.hid ((Below.refl w.heap.size w).alloc (Nat.le_refl _) (.cells #[.int .i64 V0.g, .int .i64 V0.o, .int .i64 V0.s, .int .i64 V0.k, .int .i64 V0.w] 69))
  have HX0 := Lib.hid (Box5.new w (.int .i64 V0.g) (.int .i64 V0.o) (.int .i64 V0.s) (.int .i64 V0.k) (.int .i64 V0.w) 69)
  go_enter Try.func11, Try.ntmps11
  go_wp2_with fail
  refine (toWeir V0 _).mono ?_
  rintro e w1 ⟨rfl, hb1⟩
  have HB1 := Lib.hid (HB0.out.trans (hb1.mono (by simp)))
  have HX1 := Lib.hid (HX0.out.below hb1)
  have q1 := HX1.out.lt
  clear hb1 HX0
  go_wp2_with fail
  refine (gflow_spec V0 _ _ _).mono ?_
  rintro e w2 ⟨rfl, hb2⟩
  have HB2 := Lib.hid (HB1.out.trans (hb2.mono HB1.out.size))
  have HX2 := Lib.hid (HX1.out.below hb2)
  have q2 := HX2.out.lt
  clear hb2 HX1
  obtain ⟨x0, x1, x2, x3, x4⟩ := HX2.out.at
  go_wp2_with fail
  refine (toWeir V0 _).mono ?_
  rintro e w3 ⟨rfl, hb3⟩
  have hb3' := hb3
  have HB3 := Lib.hid (HB2.out.trans (hb3'.mono HB2.out.size))
  clear hb3 hb3' HX2 x0 x1 x2 x3 x4
  go_wp2_with fail
  refine (gflow_impl V0 _ _ _).mono ?_
  rintro e w4 ⟨rfl, hb4⟩
  have HB4 := Lib.hid (HB3.out.trans (hb4.mono HB3.out.size))
  clear hb4
  go_wp2
  go_ret
  exact ⟨rfl, HB4.out⟩

theorem parOk : Try.f11.params.toList.all (fun t => Try.prog.readableRec t && decide (t < Try.prog.types.size)) = true := by kernel_rfl
set_option maxRecDepth 100000 in
theorem lifted (os : Os) (started : os.Started) (H : Type) (enc : TypeId × Value → H) :
    ReturnsInHanded {} Try.checked os 11 .any (Rows.fnExactGateFlowSpec.pre6 enc Try.prog Try.f11 Rows.fnExactGateFlowRow.domain false) (Rows.fnExactGateFlowSpec.post enc Try.prog Try.f11 false true false false) := by
  refine law_lifted (C := Try.checked) own started (by kernel_rfl) Try.func11 laid (fun t ht => by
      have h := List.all_eq_true.1 parOk t ht
      rw [Bool.and_eq_true] at h
      exact ⟨h.1, of_decide_eq_true h.2⟩) rfl Try.underlying4 rfl
    (fun xs hx => by
      rw [show Try.f11.params.toList.length = 3 from by rw [Try.params11]; rfl] at hx
      match xs, hx with
      | [d0, d1, d2], _ => rfl)
    (ChangeSpec.witness6 (enc := enc) (C := Try.checked) false ⟨#[], #[.agg #[.int .i64 0, .int .i64 0, .int .i64 0, .int .i64 0, .int .i64 0], .int .i64 0, .int .i64 0], []⟩ 8 (by kernel_rfl) (by kernel_rfl) (by kernel_rfl) (by kernel_rfl)) ?_
  intro W base args ds p hval0 hA0 _
  have hval : ∀ (j : Nat) t v, Try.f11.params[j]? = some t → args[j]? = some v → Value.okWide Try.prog W .any base t v := hval0
  have hA : DataW.TrodAll enc Try.prog W 0 (fun _ => true) true Try.f11.params.toList args.toList ds p := hA0
  clear hA0 hval0
  rw [Try.params11] at hA hval
  obtain ⟨v0, vs0, d0, ds0, p0, q0, hargs, rfl, rfl, h0, r0⟩ := trodAll_cons hA
  obtain ⟨v1, vs1, d1, ds1, p1, q1, rfl, rfl, rfl, h1, r1⟩ := trodAll_cons r0
  obtain ⟨v2, vs2, d2, ds2, p2, q2, rfl, rfl, rfl, h2, r2⟩ := trodAll_cons r1
  obtain ⟨rfl, rfl, rfl⟩ := trodAll_nil r2
  obtain rfl : args = #[v0, v1, v2] := by cases args; simp_all
  obtain ⟨V0, rfl⟩ := open_weir (hval 0 69 _ rfl rfl) h0
  obtain ⟨a1, rfl, rfl, _, x1⟩ := open_int Try.underlying3 (hval 1 3 _ rfl rfl) h1
  obtain ⟨a2, rfl, rfl, _, x2⟩ := open_int Try.underlying3 (hval 2 3 _ rfl rfl) h2
  exact walk V0 a1 a2 W x1 x2

/-- The statement. -/
theorem proved : Rows.FnExactGateFlowSaid :=
  OpenClaim.holds_of_wide 11 Try.f11 rfl rfl rfl rfl rfl rfl rfl ⟨rfl, rfl, rfl, rfl, rfl⟩ rfl rfl rfl rfl rfl (by kernel_rfl) Try.func11 (by kernel_rfl)
    (of_decide_eq_true (by kernel_rfl)) (by unfold Func.isWrapper; first | (rw [if_pos (by decide +kernel)]; kernel_rfl) | (rw [if_neg (by decide +kernel)]; exact ⟨rfl, rfl⟩))
    (fun os started H enc _ => lifted os started H enc)
#print axioms proved
end Go.Proofs.Ytolifdpbkdeeeaa.fnExactGateFlow
