/-
  For every input the Go function 'laws.FnExactPaceOf' returns true, and each argument reads afterwards as it read before. No further condition.
-/
import Derived.Test.YtngmpimoebggdaaSa2
import Derived.Test.YtngmpimoebggdaaSaO
import Derived.Test.YtngmpimoebggdaaLift
import Derived.Test.YtngmpimoebggdaaIo
import Derived.Test.YtngmpimoebggdaaOpen
import Derived.ChangeMaps5
namespace Go.Proofs.Ytngmpimoebggdaa.fnExactPaceOf
open Go.Proofs.Ytngmpimoebggdaa.C1 Go.Proofs.Ytngmpimoebggdaa.Lift Go.Proofs.Ytngmpimoebggdaa.Opened
open Go.ChangeShapes Go.WideShapes Go.ChangeAt Go.RowKit Go.ChangeMaps
set_option linter.unusedVariables false

set_option linter.unusedSimpArgs false
set_option maxRecDepth 100000 in
set_option maxHeartbeats 8000000 in
theorem walk (up0 : Bool) (A0 : Option Addr) (c0 : Nat) (T0 : List (List Bt)) (z1 : Int) (w : World) (hu0 : ArgT w A0 T0) (_ : (Lit.int .i64 z1).wf = true) :
    Calls Try.prog 3 #[.agg #[.bool up0, .slice A0 T0.length c0], .int .i64 z1] w fun e w' => e = .returned (.bool true) ∧ Below w.heap.size w w' := by
  have hB := ((Below.refl w.heap.size w).alloc (Nat.le_refl _) (.cells #[.bool up0, .slice A0 T0.length c0] 24))
  have hl0 := (TBox.new w up0 A0 T0.length c0 24)
  have HB0 := vl hB
  have HL0_0 := vl hl0
  have HU0 := vl hu0
  have HA0_0 := vl (hu0.below hB)
  clear hu0
  generalize hW : (w.alloc (.cells #[.bool up0, .slice A0 T0.length c0] 24)) = W at HB0 HL0_0 HA0_0
  clear hB hl0
  obtain ⟨l0_0, l0_1⟩ := HL0_0.out
  by_cases hbig0 : (1048576 : Int) < (szT T0 : Int)
  · go_enter Try.func3, Try.ntmps3
    go_wp2_with fail
    clear hW
    refine (szTrain_no up0 A0 c0 T0 _ _ (by omega) (by omega) HA0_0.out hbig0).mono ?_
    rintro en w1 ⟨rfl, hb⟩
    have HBe := vl (HB0.out.trans (hb.mono HB0.out.size))
    clear hb
    go_wp2
    go_ret
    exact ⟨rfl, HBe.out⟩
  have hsz0 : (szT T0 : Int) ≤ 1048576 := by omega
  have HM0 := vl (mod_of (T := T0) (by omega))
  have hn0 := HM0.out.rows
  have HR0 := vl (fun r (hr : r ∈ T0) => HM0.out.row hr)
  have hnn0 : (0 : Int) ≤ 1048576 - (szT T0 : Int) := by omega
  clear hbig0
  go_enter Try.func3, Try.ntmps3
  go_wp2_with fail
  clear hW
  refine (szTrain_yes up0 A0 c0 T0 _ _ (by omega) HA0_0.out hsz0).mono ?_
  rintro en w1 ⟨rfl, hb⟩
  clear l0_0 l0_1
  have HL0_1 := vl (HL0_0.out.below hb)
  clear HL0_0
  have HB1 := vl (HB0.out.trans (hb.mono HB0.out.size))
  clear hb
  obtain ⟨l0_0, l0_1⟩ := HL0_1.out
  clear hnn0
  go_wp2_with fail
  refine (toTrain up0 A0 c0 T0 _ hn0 HR0.out (HU0.out.src.below HB1.out)).mono ?_
  rintro en w2 ⟨⟨As0, cs0, gs0, Gs0, rfl, _, hos0⟩, hb⟩
  clear l0_0 l0_1
  have HOs := vl hos0.trn
  clear hos0
  have HL0_2 := vl (HL0_1.out.below hb)
  clear HL0_1
  have HB2 := vl (HB1.out.trans (hb.mono HB1.out.size))
  clear hb
  go_wp2_with fail
  refine (pace_spec _ _ _ _ z1 _ HM0.out HOs.out).mono ?_
  rintro en w3 ⟨rfl, hb⟩
  have HL0_3 := vl (HL0_2.out.below hb)
  clear HL0_2
  have HB3 := vl (HB2.out.trans (hb.mono HB2.out.size))
  clear hb HOs
  obtain ⟨l0_0, l0_1⟩ := HL0_3.out
  go_wp2_with fail
  refine (toTrain up0 A0 c0 T0 _ hn0 HR0.out (HU0.out.src.below HB3.out)).mono ?_
  rintro en w4 ⟨⟨Ax0, cx0, gx0, Gx0, rfl, _, hox0⟩, hb⟩
  have hba := hb.trans (((Below.refl w4.heap.size w4).alloc (Nat.le_refl _) (.cells #[.bool up0, .slice Ax0 T0.length cx0] 29)).mono hb.size)
  have HX0_4 := vl (TBox.new w4 up0 Ax0 T0.length cx0 29)
  have HO0_4 := vl ((hox0.trn).below ((Below.refl w4.heap.size w4).alloc (Nat.le_refl _) (.cells #[.bool up0, .slice Ax0 T0.length cx0] 29)))
  clear l0_0 l0_1
  have HL0_4 := vl (HL0_3.out.below hba)
  clear HL0_3
  have HB4 := vl (HB3.out.trans (hba.mono HB3.out.size))
  clear hb hba hox0
  obtain ⟨x0_0, x0_1⟩ := HX0_4.out
  go_wp2_with fail
  refine (pace_impl up0 Ax0 cx0 T0 z1 _ HM0.out HO0_4.out).mono ?_
  rintro en w5 ⟨rfl, hb⟩
  clear x0_0 x0_1
  have HL0_5 := vl (HL0_4.out.below hb)
  have HX0_5 := vl (HX0_4.out.below hb)
  have HO0_5 := vl (HO0_4.out.below hb)
  clear HL0_4 HX0_4 HO0_4
  have HB5 := vl (HB4.out.trans (hb.mono HB4.out.size))
  clear hb
  obtain ⟨l0_0, l0_1⟩ := HL0_5.out
  obtain ⟨x0_0, x0_1⟩ := HX0_5.out
  go_wp2
  go_region_held3 (fun w' => w'.cell? ⟨w.heap.size, 0, none⟩ = some (.bool up0) ∧ w'.cell? ⟨w.heap.size, 1, none⟩ = some (.slice A0 T0.length c0) ∧ w'.cell? ⟨w4.heap.size, 0, none⟩ = some (.bool up0) ∧ w'.cell? ⟨w4.heap.size, 1, none⟩ = some (.slice Ax0 T0.length cx0) ∧ Below w5.heap.size w5 w')
    (first | exact ⟨l0_0, l0_1, x0_0, x0_1, Below.refl _ _⟩ | exact ⟨l0_0, l0_1, x0_0, x0_1, (Below.refl _ _).drew⟩ | assumption)
    (first
      | (go_at_call 16; obtain ⟨q0, q1, q2, q3, hb7⟩ : _ ∧ _ ∧ _ ∧ _ ∧ Below w5.heap.size w5 _ := by assumption
         refine (toTrain up0 A0 c0 T0 _ hn0 HR0.out (HU0.out.src.below (HB5.out.trans (hb7.mono HB5.out.size)))).mono ?_
         rintro en w' ⟨⟨Ae0, ce0, ge0, Ge0, rfl, _, hoe0⟩, hb'⟩
         have HOE := vl hoe0.trn
         have S0 := And.intro ((hb'.cell (cell_lt' q0)).trans q0) (And.intro ((hb'.cell (cell_lt' q1)).trans q1) (And.intro ((hb'.cell (cell_lt' q2)).trans q2) (And.intro ((hb'.cell (cell_lt' q3)).trans q3) (hb7.trans (hb'.mono hb7.size)))))
         clear hb' hoe0)
      | (go_at_call 18; obtain ⟨q0, q1, q2, q3, hb7⟩ : _ ∧ _ ∧ _ ∧ _ ∧ Below w5.heap.size w5 _ := by assumption
         refine (eqTrain up0 _ _ _ _ T0 _ hn0 HR0.out (HO0_5.out.below hb7) HOE.out).mono ?_
         rintro en w' ⟨rfl, hb'⟩
         have S1 := And.intro ((hb'.cell (cell_lt' q0)).trans q0) (And.intro ((hb'.cell (cell_lt' q1)).trans q1) (And.intro ((hb'.cell (cell_lt' q2)).trans q2) (And.intro ((hb'.cell (cell_lt' q3)).trans q3) (hb7.trans (hb'.mono hb7.size)))))
         clear hb'))
  all_goals
    obtain ⟨q0, q1, q2, q3, hb9⟩ : _ ∧ _ ∧ _ ∧ _ ∧ Below w5.heap.size w5 _ := by assumption
    go_wp2
    go_ret
    exact ⟨rfl, HB5.out.trans (hb9.mono HB5.out.size)⟩

theorem parOk : Try.f3.params.toList.all (fun t => Try.prog.readableRec t && decide (t < Try.prog.types.size)) = true := by kernel_rfl
set_option maxRecDepth 100000 in
theorem lifted (os : Os) (started : os.Started) (H : Type) (enc : TypeId × Value → H) :
    ReturnsInHanded {} Try.checked os 3 .any (Rows.fnExactPaceOfSpec.pre6 enc Try.prog Try.f3 Rows.fnExactPaceOfRow.domain false) (Rows.fnExactPaceOfSpec.post enc Try.prog Try.f3 false true false false) := by
  refine law_lifted (C := Try.checked) own started (by kernel_rfl) Try.func3 laid (fun t ht => by
      have h := List.all_eq_true.1 parOk t ht
      rw [Bool.and_eq_true] at h
      exact ⟨h.1, of_decide_eq_true h.2⟩) rfl Try.underlying4 rfl
    (fun xs hx => by
      rw [show Try.f3.params.toList.length = 2 from by rw [Try.params3]; rfl] at hx
      match xs, hx with
      | [d0, d1], _ => rfl)
    (ChangeSpec.witness6 (enc := enc) (C := Try.checked) false ⟨#[], #[.agg #[.bool false, .slice none 0 0], .int .i64 0], []⟩ 8 (by kernel_rfl) (by kernel_rfl) (by kernel_rfl) (by kernel_rfl)) ?_
  intro W base args ds p hval0 hA0 _
  have hval : ∀ (j : Nat) t v, Try.f3.params[j]? = some t → args[j]? = some v → Value.okWide Try.prog W .any base t v := hval0
  have hA : DataW.TrodAll enc Try.prog W 0 (fun _ => true) true Try.f3.params.toList args.toList ds p := hA0
  clear hA0 hval0
  rw [Try.params3] at hA hval
  obtain ⟨v0, vs0, d0, ds0, p0, q0, hargs, rfl, rfl, h0, r0⟩ := trodAll_cons hA
  obtain ⟨v1, vs1, d1, ds1, p1, q1, rfl, rfl, rfl, h1, r1⟩ := trodAll_cons r0
  obtain ⟨rfl, rfl, rfl⟩ := trodAll_nil r1
  obtain rfl : args = #[v0, v1] := by cases args; simp_all
  obtain ⟨up0, A0, c0, T0, rfl, x0⟩ := open_train (hval 0 24 _ rfl rfl) h0
  obtain ⟨a1, rfl, rfl, _, x1⟩ := open_int Try.underlying3 (hval 1 3 _ rfl rfl) h1
  exact walk up0 A0 c0 T0 a1 W x0 x1

/-- The statement. -/
theorem proved : Rows.FnExactPaceOfSaid :=
  OpenClaim.holds_of_wide 3 Try.f3 rfl rfl rfl rfl rfl rfl rfl ⟨rfl, rfl, rfl, rfl, rfl⟩ rfl rfl rfl rfl rfl (by kernel_rfl) Try.func3 (by show joinedFacts Try.prog _ _ _ _ = true; unfold joinedFacts; rw [Io.mayEnter, Io.liftsFinal, Io.make]; kernel_rfl)
    (of_decide_eq_true (by kernel_rfl)) (by unfold Func.isWrapper; first | (rw [if_pos (by decide +kernel)]; kernel_rfl) | (rw [if_neg (by decide +kernel)]; exact ⟨rfl, rfl⟩))
    (fun os started H enc _ => lifted os started H enc)
#print axioms proved
end Go.Proofs.Ytngmpimoebggdaa.fnExactPaceOf
