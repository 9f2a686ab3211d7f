/-
  For every input the Go function 'laws.FnExactEntryOk' returns true, and each argument reads afterwards as it read before. No further condition.
-/
import Derived.Test.YtclofbknbfmmlaaEnO
import Derived.Test.YtclofbknbfmmlaaLift
import Derived.Test.YtclofbknbfmmlaaOpen
import Derived.ChangeMaps5
namespace Go.Proofs.Ytclofbknbfmmlaa.fnExactEntryOk
open Go.Proofs.Ytclofbknbfmmlaa.C1 Go.Proofs.Ytclofbknbfmmlaa.Lift Go.Proofs.Ytclofbknbfmmlaa.Opened
open Go.ChangeShapes Go.WideShapes Go.ChangeAt Go.RowKit Go.ChangeMaps
set_option linter.unusedVariables false

set_option maxHeartbeats 2000000 in
theorem walk (b : En) (w : World) :
    Calls Try.prog 5 #[.agg #[.int .i64 b.f, .int .i64 b.t, .int .i64 b.a, .int .i64 b.m, .int .i64 b.y]] w fun e w' => e = .returned (.bool true) ∧ Below w.heap.size w w' := by
  have HB0 := vl ((Below.refl w.heap.size w).alloc (Nat.le_refl _) (.cells #[.int .i64 b.f, .int .i64 b.t, .int .i64 b.a, .int .i64 b.m, .int .i64 b.y] 43))
  have HX0 := vl (BxE.new w b 43)
  obtain ⟨x0, x1, x2, x3, x4⟩ := HX0.out
  go_enter Try.func5, Try.ntmps5
  go_wp2_with fail
  refine (toEntry b _).mono ?_
  rintro e w1 ⟨rfl, hb1⟩
  have HB1 := vl (HB0.out.trans (hb1.mono HB0.out.size))
  have HX1 := vl (HX0.out.below hb1)
  clear hb1 x0 x1 x2 x3 x4
  go_wp2_with fail
  refine (enok_spec b _).mono ?_
  rintro e w2 ⟨rfl, hb2⟩
  have HB2 := vl (HB1.out.trans (hb2.mono HB1.out.size))
  have HX2 := vl (HX1.out.below hb2)
  clear hb2
  obtain ⟨x0, x1, x2, x3, x4⟩ := HX2.out
  go_wp2_with fail
  refine (toEntry b _).mono ?_
  rintro e w3 ⟨rfl, hb3⟩
  have HB3 := vl (HB2.out.trans (hb3.mono HB2.out.size))
  clear hb3 x0 x1 x2 x3 x4
  go_wp2_with fail
  refine (enok_impl b _).mono ?_
  rintro e w4 ⟨rfl, hb4⟩
  have HB4 := vl (HB3.out.trans (hb4.mono HB3.out.size))
  clear hb4
  go_wp2
  go_ret
  exact ⟨rfl, HB4.out⟩

theorem parOk : Try.f5.params.toList.all (fun t => Try.prog.readableRec t && decide (t < Try.prog.types.size)) = true := by kernel_rfl
set_option maxRecDepth 100000 in
theorem lifted (os : Os) (started : os.Started) (H : Type) (enc : TypeId × Value → H) :
    ReturnsInHanded {} Try.checked os 5 .any (Rows.fnExactEntryOkSpec.pre6 enc Try.prog Try.f5 Rows.fnExactEntryOkRow.domain false) (Rows.fnExactEntryOkSpec.post enc Try.prog Try.f5 false true false false) := by
  refine law_lifted (C := Try.checked) own started (by kernel_rfl) Try.func5 laid (fun t ht => by
      have h := List.all_eq_true.1 parOk t ht
      rw [Bool.and_eq_true] at h
      exact ⟨h.1, of_decide_eq_true h.2⟩) rfl Try.underlying4 rfl
    (fun xs hx => by
      rw [show Try.f5.params.toList.length = 1 from by rw [Try.params5]; rfl] at hx
      match xs, hx with
      | [d0], _ => rfl)
    (ChangeSpec.witness6 (enc := enc) (C := Try.checked) false ⟨#[], #[.agg #[.int .i64 0, .int .i64 0, .int .i64 0, .int .i64 0, .int .i64 0]], []⟩ 8 (by kernel_rfl) (by kernel_rfl) (by kernel_rfl) (by kernel_rfl)) ?_
  intro W base args ds p hval0 hA0 _
  have hval : ∀ (j : Nat) t v, Try.f5.params[j]? = some t → args[j]? = some v → Value.okWide Try.prog W .any base t v := hval0
  have hA : DataW.TrodAll enc Try.prog W 0 (fun _ => true) true Try.f5.params.toList args.toList ds p := hA0
  clear hA0 hval0
  rw [Try.params5] at hA hval
  obtain ⟨v0, vs0, d0, ds0, p0, q0, hargs, rfl, rfl, h0, r0⟩ := trodAll_cons hA
  obtain ⟨rfl, rfl, rfl⟩ := trodAll_nil r0
  obtain rfl : args = #[v0] := by cases args; simp_all
  obtain ⟨e0, rfl⟩ := open_entry (hval 0 43 _ rfl rfl) h0
  exact walk e0 W 

/-- The statement. -/
theorem proved : Rows.FnExactEntryOkSaid :=
  OpenClaim.holds_of_wide 5 Try.f5 rfl rfl rfl rfl rfl rfl rfl ⟨rfl, rfl, rfl, rfl, rfl⟩ rfl rfl rfl rfl rfl (by kernel_rfl) Try.func5 (by kernel_rfl)
    (of_decide_eq_true (by kernel_rfl)) (by unfold Func.isWrapper; first | (rw [if_pos (by decide +kernel)]; kernel_rfl) | (rw [if_neg (by decide +kernel)]; exact ⟨rfl, rfl⟩))
    (fun os started H enc _ => lifted os started H enc)
#print axioms proved
end Go.Proofs.Ytclofbknbfmmlaa.fnExactEntryOk
