/-
  For every input the Go function 'laws.FnExactEnterStretch' returns true, and each argument reads afterwards as it read before. No further condition.
-/
import Derived.Test.YtaacgajpjkfplaaTsG
import Derived.Test.YtaacgajpjkfplaaLift
import Derived.Test.YtaacgajpjkfplaaOpen
import Derived.ChangeMaps5
namespace Go.Proofs.Ytaacgajpjkfplaa.fnExactEnterStretch
open Go.Proofs.Ytaacgajpjkfplaa.C1 Go.Proofs.Ytaacgajpjkfplaa.Lift Go.Proofs.Ytaacgajpjkfplaa.Opened
open Go.ChangeShapes Go.WideShapes Go.ChangeAt Go.RowKit Go.ChangeMaps
set_option linter.unusedVariables false

set_option maxHeartbeats 1000000 in
theorem walk (S0 : Sr) (b1 : Bool) (w : World) :
    Calls Try.prog 9 #[.agg #[.bool S0.u, .int .i64 S0.i, .int .i64 S0.r, .int .i64 S0.l], .bool b1] w fun e w' => e = .returned (.bool true) ∧ Below w.heap.size w w' := by
  have HB0 := Lib.hid ((Below.refl w.heap.size w).alloc (Nat.le_refl _) (.cells #[.bool S0.u, .int .i64 S0.i, .int .i64 S0.r, .int .i64 S0.l] 46))
  have HX0 := Lib.hid (Box4.new w (.bool S0.u) (.int .i64 S0.i) (.int .i64 S0.r) (.int .i64 S0.l) 46)
  go_enter Try.func9, Try.ntmps9
  go_wp2_with fail
  refine (toStretch S0 _).mono ?_
  rintro e w1 ⟨rfl, hb1⟩
  have HB1 := Lib.hid (HB0.out.trans (hb1.mono (by simp)))
  have HX1 := Lib.hid (HX0.out.below hb1)
  have q1 := HX1.out.lt
  clear hb1 HX0
  go_wp2_with fail
  refine (enter_spec S0 b1 _).mono ?_
  rintro e w2 ⟨rfl, hb2⟩
  have HB2 := Lib.hid (HB1.out.trans (hb2.mono HB1.out.size))
  have HX2 := Lib.hid (HX1.out.below hb2)
  have q2 := HX2.out.lt
  clear hb2 HX1
  obtain ⟨x0, x1, x2, x3⟩ := HX2.out.at
  go_wp2_with fail
  refine (toStretch S0 _).mono ?_
  rintro e w3 ⟨rfl, hb3⟩
  have hb3' := ((Below.refl w2.heap.size w2).alloc (Nat.le_refl _) (.cells #[.bool (enterS S0 b1).u, .int .i64 (enterS S0 b1).i, .int .i64 (enterS S0 b1).r, .int .i64 (enterS S0 b1).l] 26)).trans (hb3.mono (by simp))
  have HG3 := Lib.hid ((Box4.new w2 (.bool (enterS S0 b1).u) (.int .i64 (enterS S0 b1).i) (.int .i64 (enterS S0 b1).r) (.int .i64 (enterS S0 b1).l) 26).below hb3)
  have HB3 := Lib.hid (HB2.out.trans (hb3'.mono HB2.out.size))
  clear hb3 hb3' HX2 x0 x1 x2 x3
  go_wp2_with fail
  refine (enter_impl S0 b1 _).mono ?_
  rintro e w4 ⟨rfl, hb4⟩
  have HB4 := Lib.hid (HB3.out.trans (hb4.mono HB3.out.size))
  have HG4 := Lib.hid (HG3.out.below hb4)
  have q4 := HG4.out.lt
  obtain ⟨y0, y1, y2, y3⟩ := HG4.out.at
  clear hb4 HG3
  go_wp2_with fail
  refine (eqStretch (enterS S0 b1) _).mono ?_
  rintro e w5 ⟨rfl, hb5⟩
  have HB5 := Lib.hid ((HB4.out.alloc HB4.out.size (.cells #[.bool (enterS S0 b1).u, .int .i64 (enterS S0 b1).i, .int .i64 (enterS S0 b1).r, .int .i64 (enterS S0 b1).l] 26)).trans (hb5.mono (by simp; have := HB4.out.size; omega)))
  clear hb5 y0 y1 y2 y3
  go_wp2
  go_ret
  exact ⟨rfl, HB5.out⟩

theorem parOk : Try.f9.params.toList.all (fun t => Try.prog.readableRec t && decide (t < Try.prog.types.size)) = true := by kernel_rfl
set_option maxRecDepth 100000 in
theorem lifted (os : Os) (started : os.Started) (H : Type) (enc : TypeId × Value → H) :
    ReturnsInHanded {} Try.checked os 9 .any (Rows.fnExactEnterStretchSpec.pre6 enc Try.prog Try.f9 Rows.fnExactEnterStretchRow.domain false) (Rows.fnExactEnterStretchSpec.post enc Try.prog Try.f9 false true false false) := by
  refine law_lifted (C := Try.checked) own started (by kernel_rfl) Try.func9 laid (fun t ht => by
      have h := List.all_eq_true.1 parOk t ht
      rw [Bool.and_eq_true] at h
      exact ⟨h.1, of_decide_eq_true h.2⟩) rfl Try.underlying4 rfl
    (fun xs hx => by
      rw [show Try.f9.params.toList.length = 2 from by rw [Try.params9]; rfl] at hx
      match xs, hx with
      | [d0, d1], _ => rfl)
    (ChangeSpec.witness6 (enc := enc) (C := Try.checked) false ⟨#[], #[.agg #[.bool false, .int .i64 0, .int .i64 0, .int .i64 0], .bool false], []⟩ 8 (by kernel_rfl) (by kernel_rfl) (by kernel_rfl) (by kernel_rfl)) ?_
  intro W base args ds p hval0 hA0 _
  have hval : ∀ (j : Nat) t v, Try.f9.params[j]? = some t → args[j]? = some v → Value.okWide Try.prog W .any base t v := hval0
  have hA : DataW.TrodAll enc Try.prog W 0 (fun _ => true) true Try.f9.params.toList args.toList ds p := hA0
  clear hA0 hval0
  rw [Try.params9] at hA hval
  obtain ⟨v0, vs0, d0, ds0, p0, q0, hargs, rfl, rfl, h0, r0⟩ := trodAll_cons hA
  obtain ⟨v1, vs1, d1, ds1, p1, q1, rfl, rfl, rfl, h1, r1⟩ := trodAll_cons r0
  obtain ⟨rfl, rfl, rfl⟩ := trodAll_nil r1
  obtain rfl : args = #[v0, v1] := by cases args; simp_all
  obtain ⟨S0, rfl⟩ := open_stretch (hval 0 46 _ rfl rfl) h0
  obtain ⟨a1, rfl, rfl, _⟩ := open_bool Try.underlying4 (hval 1 4 _ rfl rfl) h1
  exact walk S0 a1 W 

/-- The statement. -/
theorem proved : Rows.FnExactEnterStretchSaid :=
  OpenClaim.holds_of_wide 9 Try.f9 rfl rfl rfl rfl rfl rfl rfl ⟨rfl, rfl, rfl, rfl, rfl⟩ rfl rfl rfl rfl rfl (by kernel_rfl) Try.func9 (by kernel_rfl)
    (of_decide_eq_true (by kernel_rfl)) (by unfold Func.isWrapper; first | (rw [if_pos (by decide +kernel)]; kernel_rfl) | (rw [if_neg (by decide +kernel)]; exact ⟨rfl, rfl⟩))
    (fun os started H enc _ => lifted os started H enc)
#print axioms proved
end Go.Proofs.Ytaacgajpjkfplaa.fnExactEnterStretch
