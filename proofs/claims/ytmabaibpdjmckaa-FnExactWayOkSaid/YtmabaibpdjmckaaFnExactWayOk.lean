/-
  For every input the Go function 'laws.FnExactWayOk' returns true, and each argument reads afterwards as it read before. No further condition.
-/
import Derived.Test.YtmabaibpdjmckaaSa1
import Derived.Test.YtmabaibpdjmckaaSaO
import Derived.Test.YtmabaibpdjmckaaLift
import Derived.Test.YtmabaibpdjmckaaOpen
import Derived.ChangeMaps5
namespace Go.Proofs.Ytmabaibpdjmckaa.fnExactWayOk
open Go.Proofs.Ytmabaibpdjmckaa.C1 Go.Proofs.Ytmabaibpdjmckaa.Lift Go.Proofs.Ytmabaibpdjmckaa.Opened
open Go.ChangeShapes Go.WideShapes Go.ChangeAt Go.RowKit Go.ChangeMaps
set_option linter.unusedVariables false

set_option linter.unusedSimpArgs false
set_option maxRecDepth 100000 in
set_option maxHeartbeats 8000000 in
theorem walk (Y0 : Wy) (w : World) :
    Calls Try.prog 4 #[.agg #[.int .i64 Y0.l, .int .i64 Y0.b]] w fun e w' => e = .returned (.bool true) ∧ Below w.heap.size w w' := by
  have hB := ((Below.refl w.heap.size w).alloc (Nat.le_refl _) (.cells #[.int .i64 Y0.l, .int .i64 Y0.b] 50))
  have hl0 := (WBox.new w Y0 50)
  have HB0 := vl hB
  have HL0_0 := vl hl0
  generalize hW : (w.alloc (.cells #[.int .i64 Y0.l, .int .i64 Y0.b] 50)) = W at HB0 HL0_0
  clear hB hl0
  obtain ⟨l0_0, l0_1⟩ := HL0_0.out.at
  go_enter Try.func4, Try.ntmps4
  go_wp2_with fail
  refine (toWay Y0 _).mono ?_
  rintro en w1 ⟨rfl, hb⟩
  clear l0_0 l0_1
  have HL0_1 := vl (HL0_0.out.below hb)
  clear HL0_0
  have HB1 := vl (HB0.out.trans (hb.mono HB0.out.size))
  clear hb
  go_wp2_with fail
  refine (wayok_spec _ _).mono ?_
  rintro en w2 ⟨rfl, hb⟩
  have HL0_2 := vl (HL0_1.out.below hb)
  clear HL0_1
  have HB2 := vl (HB1.out.trans (hb.mono HB1.out.size))
  clear hb
  obtain ⟨l0_0, l0_1⟩ := HL0_2.out.at
  go_wp2_with fail
  refine (toWay Y0 _).mono ?_
  rintro en w3 ⟨rfl, hb⟩
  clear l0_0 l0_1
  have HL0_3 := vl (HL0_2.out.below hb)
  clear HL0_2
  have HB3 := vl (HB2.out.trans (hb.mono HB2.out.size))
  clear hb
  go_wp2_with fail
  refine (wayok_impl Y0 _).mono ?_
  rintro en w4 ⟨rfl, hb⟩
  have HL0_4 := vl (HL0_3.out.below hb)
  clear HL0_3
  have HB4 := vl (HB3.out.trans (hb.mono HB3.out.size))
  clear hb
  go_wp2
  go_ret
  exact ⟨rfl, HB4.out⟩

theorem parOk : Try.f4.params.toList.all (fun t => Try.prog.readableRec t && decide (t < Try.prog.types.size)) = true := by kernel_rfl
set_option maxRecDepth 100000 in
theorem lifted (os : Os) (started : os.Started) (H : Type) (enc : TypeId × Value → H) :
    ReturnsInHanded {} Try.checked os 4 .any (Rows.fnExactWayOkSpec.pre6 enc Try.prog Try.f4 Rows.fnExactWayOkRow.domain false) (Rows.fnExactWayOkSpec.post enc Try.prog Try.f4 false true false false) := by
  refine law_lifted (C := Try.checked) own started (by kernel_rfl) Try.func4 laid (fun t ht => by
      have h := List.all_eq_true.1 parOk t ht
      rw [Bool.and_eq_true] at h
      exact ⟨h.1, of_decide_eq_true h.2⟩) rfl Try.underlying4 rfl
    (fun xs hx => by
      rw [show Try.f4.params.toList.length = 1 from by rw [Try.params4]; rfl] at hx
      match xs, hx with
      | [d0], _ => rfl)
    (ChangeSpec.witness6 (enc := enc) (C := Try.checked) false ⟨#[], #[.agg #[.int .i64 0, .int .i64 0]], []⟩ 8 (by kernel_rfl) (by kernel_rfl) (by kernel_rfl) (by kernel_rfl)) ?_
  intro W base args ds p hval0 hA0 _
  have hval : ∀ (j : Nat) t v, Try.f4.params[j]? = some t → args[j]? = some v → Value.okWide Try.prog W .any base t v := hval0
  have hA : DataW.TrodAll enc Try.prog W 0 (fun _ => true) true Try.f4.params.toList args.toList ds p := hA0
  clear hA0 hval0
  rw [Try.params4] at hA hval
  obtain ⟨v0, vs0, d0, ds0, p0, q0, hargs, rfl, rfl, h0, r0⟩ := trodAll_cons hA
  obtain ⟨rfl, rfl, rfl⟩ := trodAll_nil r0
  obtain rfl : args = #[v0] := by cases args; simp_all
  obtain ⟨Y0, rfl⟩ := open_way (hval 0 50 _ rfl rfl) h0
  exact walk Y0 W 

/-- The statement. -/
theorem proved : Rows.FnExactWayOkSaid :=
  OpenClaim.holds_of_wide 4 Try.f4 rfl rfl rfl rfl rfl rfl rfl ⟨rfl, rfl, rfl, rfl, rfl⟩ rfl rfl rfl rfl rfl (by kernel_rfl) Try.func4 (by kernel_rfl)
    (of_decide_eq_true (by kernel_rfl)) (by unfold Func.isWrapper; first | (rw [if_pos (by decide +kernel)]; kernel_rfl) | (rw [if_neg (by decide +kernel)]; exact ⟨rfl, rfl⟩))
    (fun os started H enc _ => lifted os started H enc)
#print axioms proved
end Go.Proofs.Ytmabaibpdjmckaa.fnExactWayOk
