/-
  For every input the Go function 'laws.FnExactMayPass' returns true, and each argument reads afterwards as it read before. No further condition.
-/
import Derived.Test.YtaacgajpjkfplaaTsG
import Derived.Test.YtaacgajpjkfplaaLift
import Derived.Test.YtaacgajpjkfplaaOpen
import Derived.ChangeMaps5
namespace Go.Proofs.Ytaacgajpjkfplaa.fnExactMayPass
open Go.Proofs.Ytaacgajpjkfplaa.C1 Go.Proofs.Ytaacgajpjkfplaa.Lift Go.Proofs.Ytaacgajpjkfplaa.Opened
open Go.ChangeShapes Go.WideShapes Go.ChangeAt Go.RowKit Go.ChangeMaps
set_option linter.unusedVariables false

set_option maxHeartbeats 1000000 in
theorem walk (S0 : Sr) (b1 : Bool) (b2 : Bool) (w : World) :
    Calls Try.prog 8 #[.agg #[.bool S0.u, .int .i64 S0.i, .int .i64 S0.r, .int .i64 S0.l], .bool b1, .bool b2] w fun e w' => e = .returned (.bool true) ∧ Below w.heap.size w w' := by
  have HB0 := Lib.hid ((Below.refl w.heap.size w).alloc (Nat.le_refl _) (.cells #[.bool S0.u, .int .i64 S0.i, .int .i64 S0.r, .int .i64 S0.l] 46))
  have HX0 := Lib.hid (Box4.new w (.bool S0.u) (.int .i64 S0.i) (.int .i64 S0.r) (.int .i64 S0.l) 46)
  go_enter Try.func8, Try.ntmps8
  go_wp2_with fail
  refine (toStretch S0 _).mono ?_
  rintro e w1 ⟨rfl, hb1⟩
  have HB1 := Lib.hid (HB0.out.trans (hb1.mono (by simp)))
  have HX1 := Lib.hid (HX0.out.below hb1)
  have q1 := HX1.out.lt
  clear hb1 HX0
  go_wp2_with fail
  refine (may_spec S0 b1 b2 _).mono ?_
  rintro e w2 ⟨rfl, hb2⟩
  have HB2 := Lib.hid (HB1.out.trans (hb2.mono HB1.out.size))
  have HX2 := Lib.hid (HX1.out.below hb2)
  have q2 := HX2.out.lt
  clear hb2 HX1
  obtain ⟨x0, x1, x2, x3⟩ := HX2.out.at
  go_wp2_with fail
  refine (toStretch S0 _).mono ?_
  rintro e w3 ⟨rfl, hb3⟩
  have HB3 := Lib.hid (HB2.out.trans (hb3.mono HB2.out.size))
  clear hb3 HX2 x0 x1 x2 x3
  go_wp2_with fail
  refine (may_impl S0 b1 b2 _).mono ?_
  rintro e w4 ⟨rfl, hb4⟩
  have HB4 := Lib.hid (HB3.out.trans (hb4.mono HB3.out.size))
  clear hb4
  go_wp2
  go_ret
  exact ⟨rfl, HB4.out⟩

theorem parOk : Try.f8.params.toList.all (fun t => Try.prog.readableRec t && decide (t < Try.prog.types.size)) = true := by kernel_rfl
set_option maxRecDepth 100000 in
theorem lifted (os : Os) (started : os.Started) (H : Type) (enc : TypeId × Value → H) :
    ReturnsInHanded {} Try.checked os 8 .any (Rows.fnExactMayPassSpec.pre6 enc Try.prog Try.f8 Rows.fnExactMayPassRow.domain false) (Rows.fnExactMayPassSpec.post enc Try.prog Try.f8 false true false false) := by
  refine law_lifted (C := Try.checked) own started (by kernel_rfl) Try.func8 laid (fun t ht => by
      have h := List.all_eq_true.1 parOk t ht
      rw [Bool.and_eq_true] at h
      exact ⟨h.1, of_decide_eq_true h.2⟩) rfl Try.underlying4 rfl
    (fun xs hx => by
      rw [show Try.f8.params.toList.length = 3 from by rw [Try.params8]; rfl] at hx
      match xs, hx with
      | [d0, d1, d2], _ => rfl)
    (ChangeSpec.witness6 (enc := enc) (C := Try.checked) false ⟨#[], #[.agg #[.bool false, .int .i64 0, .int .i64 0, .int .i64 0], .bool false, .bool false], []⟩ 8 (by kernel_rfl) (by kernel_rfl) (by kernel_rfl) (by kernel_rfl)) ?_
  intro W base args ds p hval0 hA0 _
  have hval : ∀ (j : Nat) t v, Try.f8.params[j]? = some t → args[j]? = some v → Value.okWide Try.prog W .any base t v := hval0
  have hA : DataW.TrodAll enc Try.prog W 0 (fun _ => true) true Try.f8.params.toList args.toList ds p := hA0
  clear hA0 hval0
  rw [Try.params8] at hA hval
  obtain ⟨v0, vs0, d0, ds0, p0, q0, hargs, rfl, rfl, h0, r0⟩ := trodAll_cons hA
  obtain ⟨v1, vs1, d1, ds1, p1, q1, rfl, rfl, rfl, h1, r1⟩ := trodAll_cons r0
  obtain ⟨v2, vs2, d2, ds2, p2, q2, rfl, rfl, rfl, h2, r2⟩ := trodAll_cons r1
  obtain ⟨rfl, rfl, rfl⟩ := trodAll_nil r2
  obtain rfl : args = #[v0, v1, v2] := by cases args; simp_all
  obtain ⟨S0, rfl⟩ := open_stretch (hval 0 46 _ rfl rfl) h0
  obtain ⟨a1, rfl, rfl, _⟩ := open_bool Try.underlying4 (hval 1 4 _ rfl rfl) h1
  obtain ⟨a2, rfl, rfl, _⟩ := open_bool Try.underlying4 (hval 2 4 _ rfl rfl) h2
  exact walk S0 a1 a2 W 

/-- The statement. -/
theorem proved : Rows.FnExactMayPassSaid :=
  OpenClaim.holds_of_wide 8 Try.f8 rfl rfl rfl rfl rfl rfl rfl ⟨rfl, rfl, rfl, rfl, rfl⟩ rfl rfl rfl rfl rfl (by kernel_rfl) Try.func8 (by kernel_rfl)
    (of_decide_eq_true (by kernel_rfl)) (by unfold Func.isWrapper; first | (rw [if_pos (by decide +kernel)]; kernel_rfl) | (rw [if_neg (by decide +kernel)]; exact ⟨rfl, rfl⟩))
    (fun os started H enc _ => lifted os started H enc)
#print axioms proved
end Go.Proofs.Ytaacgajpjkfplaa.fnExactMayPass
