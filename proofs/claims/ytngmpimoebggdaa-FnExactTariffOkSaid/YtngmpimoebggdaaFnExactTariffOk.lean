/-
  For every input the Go function 'laws.FnExactTariffOk' returns true, and each argument reads afterwards as it read before. No further condition.
-/
import Derived.Test.YtngmpimoebggdaaTfO
import Derived.Test.YtngmpimoebggdaaDraw
import Derived.Deep.RegionHeld3
import Derived.Test.YtngmpimoebggdaaLift
import Derived.Test.YtngmpimoebggdaaIo
import Derived.Test.YtngmpimoebggdaaOpen
import Derived.ChangeMaps5
namespace Go.Proofs.Ytngmpimoebggdaa.fnExactTariffOk
open Go.Proofs.Ytngmpimoebggdaa.C1 Go.Proofs.Ytngmpimoebggdaa.Lift Go.Proofs.Ytngmpimoebggdaa.Opened
open Go.ChangeShapes Go.WideShapes Go.ChangeAt Go.RowKit Go.ChangeMaps
set_option linter.unusedVariables false

set_option linter.unusedSimpArgs false
set_option maxRecDepth 100000 in
set_option maxHeartbeats 8000000 in
theorem walk (T0 : Tf) (A0 : Option Addr) (D0 : Option Addr) (c0 : Nat) (d0 : Nat) (w : World) (hu0 : ArgTf w T0 A0 D0) :
    Calls Try.prog 7 #[.agg #[.int .i64 T0.b, .int .i64 T0.p, .slice A0 T0.n c0, .slice D0 T0.m d0]] w fun e w' => e = .returned (.bool true) ∧ Below w.heap.size w w' := by
  have hB := ((Below.refl w.heap.size w).alloc (Nat.le_refl _) (.cells #[.int .i64 T0.b, .int .i64 T0.p, .slice A0 T0.n c0, .slice D0 T0.m d0] 59))
  have hl0 := (Box4.new w (.int .i64 T0.b) (.int .i64 T0.p) (.slice A0 T0.n c0) (.slice D0 T0.m d0) 59)
  have HB0 := vl hB
  have HL0_0 := vl hl0
  obtain ⟨n1_0, n2_0, hsp0, hsi0⟩ := hu0
  have HSP0 := vl hsp0
  have HSI0 := vl hsi0
  clear hsp0 hsi0
  generalize hW : (w.alloc (.cells #[.int .i64 T0.b, .int .i64 T0.p, .slice A0 T0.n c0, .slice D0 T0.m d0] 59)) = W at HB0 HL0_0
  clear hB hl0
  obtain ⟨l0_0, l0_1, l0_2, l0_3⟩ := HL0_0.out.at
  by_cases hbig0 : (1048576 : Int) < (T0.n : Int) + T0.m
  · go_enter Try.func7, Try.ntmps7
    go_wp2_with fail
    clear hW
    refine (szTariff_no T0 A0 D0 c0 d0 _ _ (by omega) (by omega) n1_0 n2_0 hbig0).mono ?_
    rintro en w1 ⟨rfl, hb⟩
    have HBe := vl (HB0.out.trans (hb.mono HB0.out.size))
    clear hb
    go_wp2
    go_ret
    exact ⟨rfl, HBe.out⟩
  have hn0 : T0.n ≤ 1048576 := by omega
  have hm0 : T0.m ≤ 1048576 := by omega
  have hsz0 : (T0.n : Int) + T0.m ≤ 1048576 := by omega
  have hnn0 : (0 : Int) ≤ 1048576 - (T0.n : Int) - (T0.m : Int) := by omega
  clear hbig0
  go_enter Try.func7, Try.ntmps7
  go_wp2_with fail
  clear hW
  refine (szTariff_yes T0 A0 D0 c0 d0 _ _ (by omega) (by omega) hsz0).mono ?_
  rintro en w1 ⟨rfl, hb⟩
  clear l0_0 l0_1 l0_2 l0_3
  have HL0_1 := vl (HL0_0.out.below hb)
  clear HL0_0
  have HB1 := vl (HB0.out.trans (hb.mono HB0.out.size))
  clear hb
  obtain ⟨l0_0, l0_1, l0_2, l0_3⟩ := HL0_1.out.at
  clear hnn0
  go_wp2_with fail
  refine (toTariff T0 A0 D0 c0 d0 _ hn0 hm0 (HSP0.out.below HB1.out) (HSI0.out.below HB1.out)).mono ?_
  rintro en w2 ⟨⟨As0, cs0, Ds0, ds0, gs0, hs0, rfl, hos0⟩, hb⟩
  clear l0_0 l0_1 l0_2 l0_3
  have HOs := vl hos0
  clear hos0
  have HL0_2 := vl (HL0_1.out.below hb)
  clear HL0_1
  have HB2 := vl (HB1.out.trans (hb.mono HB1.out.size))
  clear hb
  go_wp2_with fail
  refine (tfok_spec _ _ _ _ _ _ hn0 hm0 HOs.out.1.srcG HOs.out.2.2.1.srcG).mono ?_
  rintro en w3 ⟨rfl, hb⟩
  have HL0_3 := vl (HL0_2.out.below hb)
  clear HL0_2
  have HB3 := vl (HB2.out.trans (hb.mono HB2.out.size))
  clear hb HOs
  obtain ⟨l0_0, l0_1, l0_2, l0_3⟩ := HL0_3.out.at
  go_wp2_with fail
  refine (toTariff T0 A0 D0 c0 d0 _ hn0 hm0 (HSP0.out.below HB3.out) (HSI0.out.below HB3.out)).mono ?_
  rintro en w4 ⟨⟨Ax0, cx0, Dx0, dx0, gx0, hx0, rfl, hox0⟩, hb⟩
  have hba := hb.trans (((Below.refl w4.heap.size w4).alloc (Nat.le_refl _) (.cells #[.int .i64 T0.b, .int .i64 T0.p, .slice Ax0 T0.n cx0, .slice Dx0 T0.m dx0] 62)).mono hb.size)
  have HX0_4 := vl (Box4.new w4 (.int .i64 T0.b) (.int .i64 T0.p) (.slice Ax0 T0.n cx0) (.slice Dx0 T0.m dx0) 62)
  have HO0_4 := vl ((hox0).below ((Below.refl w4.heap.size w4).alloc (Nat.le_refl _) (.cells #[.int .i64 T0.b, .int .i64 T0.p, .slice Ax0 T0.n cx0, .slice Dx0 T0.m dx0] 62)))
  clear l0_0 l0_1 l0_2 l0_3
  have HL0_4 := vl (HL0_3.out.below hba)
  clear HL0_3
  have HB4 := vl (HB3.out.trans (hba.mono HB3.out.size))
  clear hb hba hox0
  obtain ⟨x0_0, x0_1, x0_2, x0_3⟩ := HX0_4.out.at
  go_wp2_with fail
  refine (tfok_impl T0 Ax0 Dx0 cx0 dx0 _ hn0 hm0 HO0_4.out.1.srcG HO0_4.out.2.2.1.srcG).mono ?_
  rintro en w5 ⟨rfl, hb⟩
  clear x0_0 x0_1 x0_2 x0_3
  have HL0_5 := vl (HL0_4.out.below hb)
  have HX0_5 := vl (HX0_4.out.below hb)
  have HO0_5 := vl (HO0_4.out.below hb)
  clear HL0_4 HX0_4 HO0_4
  have HB5 := vl (HB4.out.trans (hb.mono HB4.out.size))
  clear hb
  obtain ⟨l0_0, l0_1, l0_2, l0_3⟩ := HL0_5.out.at
  obtain ⟨x0_0, x0_1, x0_2, x0_3⟩ := HX0_5.out.at
  go_wp2
  go_region_held3 (fun w' => w'.cell? ⟨w.heap.size, 0, none⟩ = some (.int .i64 T0.b) ∧ w'.cell? ⟨w.heap.size, 1, none⟩ = some (.int .i64 T0.p) ∧ w'.cell? ⟨w.heap.size, 2, none⟩ = some (.slice A0 T0.n c0) ∧ w'.cell? ⟨w.heap.size, 3, none⟩ = some (.slice D0 T0.m d0) ∧ w'.cell? ⟨w4.heap.size, 0, none⟩ = some (.int .i64 T0.b) ∧ w'.cell? ⟨w4.heap.size, 1, none⟩ = some (.int .i64 T0.p) ∧ w'.cell? ⟨w4.heap.size, 2, none⟩ = some (.slice Ax0 T0.n cx0) ∧ w'.cell? ⟨w4.heap.size, 3, none⟩ = some (.slice Dx0 T0.m dx0) ∧ Below w5.heap.size w5 w')
    (first | exact ⟨l0_0, l0_1, l0_2, l0_3, x0_0, x0_1, x0_2, x0_3, Below.refl _ _⟩ | exact ⟨l0_0, l0_1, l0_2, l0_3, x0_0, x0_1, x0_2, x0_3, (Below.refl _ _).drew⟩ | assumption)
    (first
      | (go_at_call 34; obtain ⟨q0, q1, q2, q3, q4, q5, q6, q7, hb7⟩ : _ ∧ _ ∧ _ ∧ _ ∧ _ ∧ _ ∧ _ ∧ _ ∧ Below w5.heap.size w5 _ := by assumption
         refine (toTariff T0 A0 D0 c0 d0 _ hn0 hm0 (HSP0.out.below (HB5.out.trans (hb7.mono HB5.out.size))) (HSI0.out.below (HB5.out.trans (hb7.mono HB5.out.size)))).mono ?_
         rintro en w' ⟨⟨Ae0, ce0, De0, de0, ge0, he0, rfl, hoe0⟩, hb'⟩
         have HOE := vl hoe0
         have S0 := And.intro ((hb'.cell (cell_lt' q0)).trans q0) (And.intro ((hb'.cell (cell_lt' q1)).trans q1) (And.intro ((hb'.cell (cell_lt' q2)).trans q2) (And.intro ((hb'.cell (cell_lt' q3)).trans q3) (And.intro ((hb'.cell (cell_lt' q4)).trans q4) (And.intro ((hb'.cell (cell_lt' q5)).trans q5) (And.intro ((hb'.cell (cell_lt' q6)).trans q6) (And.intro ((hb'.cell (cell_lt' q7)).trans q7) (hb7.trans (hb'.mono hb7.size)))))))))
         clear hb' hoe0)
      | (go_at_call 36; obtain ⟨q0, q1, q2, q3, q4, q5, q6, q7, hb7⟩ : _ ∧ _ ∧ _ ∧ _ ∧ _ ∧ _ ∧ _ ∧ _ ∧ Below w5.heap.size w5 _ := by assumption
         refine (eqTariff T0 _ _ _ _ _ _ _ _ _ hn0 hm0 (HO0_5.out.below hb7) HOE.out).mono ?_
         rintro en w' ⟨rfl, hb'⟩
         have S1 := And.intro ((hb'.cell (cell_lt' q0)).trans q0) (And.intro ((hb'.cell (cell_lt' q1)).trans q1) (And.intro ((hb'.cell (cell_lt' q2)).trans q2) (And.intro ((hb'.cell (cell_lt' q3)).trans q3) (And.intro ((hb'.cell (cell_lt' q4)).trans q4) (And.intro ((hb'.cell (cell_lt' q5)).trans q5) (And.intro ((hb'.cell (cell_lt' q6)).trans q6) (And.intro ((hb'.cell (cell_lt' q7)).trans q7) (hb7.trans (hb'.mono hb7.size)))))))))
         clear hb'))
  all_goals
    obtain ⟨q0, q1, q2, q3, q4, q5, q6, q7, hb9⟩ : _ ∧ _ ∧ _ ∧ _ ∧ _ ∧ _ ∧ _ ∧ _ ∧ Below w5.heap.size w5 _ := by assumption
    go_wp2
    go_ret
    exact ⟨rfl, HB5.out.trans (hb9.mono HB5.out.size)⟩

theorem parOk : Try.f7.params.toList.all (fun t => Try.prog.readableRec t && decide (t < Try.prog.types.size)) = true := by kernel_rfl
set_option maxRecDepth 100000 in
theorem lifted (os : Os) (started : os.Started) (H : Type) (enc : TypeId × Value → H) :
    ReturnsInHanded {} Try.checked os 7 .any (Rows.fnExactTariffOkSpec.pre6 enc Try.prog Try.f7 Rows.fnExactTariffOkRow.domain false) (Rows.fnExactTariffOkSpec.post enc Try.prog Try.f7 false true false false) := by
  refine law_lifted (C := Try.checked) own started (by kernel_rfl) Try.func7 laid (fun t ht => by
      have h := List.all_eq_true.1 parOk t ht
      rw [Bool.and_eq_true] at h
      exact ⟨h.1, of_decide_eq_true h.2⟩) rfl Try.underlying4 rfl
    (fun xs hx => by
      rw [show Try.f7.params.toList.length = 1 from by rw [Try.params7]; rfl] at hx
      match xs, hx with
      | [d0], _ => rfl)
    (ChangeSpec.witness6 (enc := enc) (C := Try.checked) false ⟨#[], #[.agg #[.int .i64 0, .int .i64 0, .slice none 0 0, .slice none 0 0]], []⟩ 8 (by kernel_rfl) (by kernel_rfl) (by kernel_rfl) (by kernel_rfl)) ?_
  intro W base args ds p hval0 hA0 _
  have hval : ∀ (j : Nat) t v, Try.f7.params[j]? = some t → args[j]? = some v → Value.okWide Try.prog W .any base t v := hval0
  have hA : DataW.TrodAll enc Try.prog W 0 (fun _ => true) true Try.f7.params.toList args.toList ds p := hA0
  clear hA0 hval0
  rw [Try.params7] at hA hval
  obtain ⟨v0, vs0, d0, ds0, p0, q0, hargs, rfl, rfl, h0, r0⟩ := trodAll_cons hA
  obtain ⟨rfl, rfl, rfl⟩ := trodAll_nil r0
  obtain rfl : args = #[v0] := by cases args; simp_all
  obtain ⟨T0, A0, D0, c0, d0, rfl, x0⟩ := open_tariff (hval 0 59 _ rfl rfl) h0
  exact walk T0 A0 D0 c0 d0 W x0

/-- The statement. -/
theorem proved : Rows.FnExactTariffOkSaid :=
  OpenClaim.holds_of_wide 7 Try.f7 rfl rfl rfl rfl rfl rfl rfl ⟨rfl, rfl, rfl, rfl, rfl⟩ rfl rfl rfl rfl rfl (by kernel_rfl) Try.func7 (by show joinedFacts Try.prog _ _ _ _ = true; unfold joinedFacts; rw [Io.mayEnter, Io.liftsFinal, Io.make]; kernel_rfl)
    (of_decide_eq_true (by kernel_rfl)) (by unfold Func.isWrapper; first | (rw [if_pos (by decide +kernel)]; kernel_rfl) | (rw [if_neg (by decide +kernel)]; exact ⟨rfl, rfl⟩))
    (fun os started H enc _ => lifted os started H enc)
#print axioms proved
end Go.Proofs.Ytngmpimoebggdaa.fnExactTariffOk
