/-
  For every input the Go function 'laws.FnExactTollEntries' returns true, and each argument reads afterwards as it read before. No further condition.
-/
import Derived.Test.YtngmpimoebggdaaTolS
import Derived.Test.YtngmpimoebggdaaTfK
import Derived.Test.YtngmpimoebggdaaEnK
import Derived.Test.YtngmpimoebggdaaTrnK
import Derived.Test.YtngmpimoebggdaaTrnE
import Derived.Test.YtngmpimoebggdaaOpenT
import Derived.Test.YtngmpimoebggdaaTrLw
import Derived.Test.YtngmpimoebggdaaLift
import Derived.Test.YtngmpimoebggdaaIo
import Derived.Test.YtngmpimoebggdaaOpen
import Derived.ChangeMaps5
namespace Go.Proofs.Ytngmpimoebggdaa.fnExactTollEntries
open Go.Proofs.Ytngmpimoebggdaa.C1 Go.Proofs.Ytngmpimoebggdaa.Lift Go.Proofs.Ytngmpimoebggdaa.Opened
open Go.ChangeShapes Go.WideShapes Go.ChangeAt Go.RowKit Go.ChangeMaps
set_option linter.unusedVariables false

set_option linter.unusedSimpArgs false
set_option maxRecDepth 100000 in
set_option maxHeartbeats 16000000 in
theorem walk (T0 : Tf) (A0 : Option Addr) (D0 : Option Addr) (c0 : Nat) (d0 : Nat) (up1 : Bool) (A1 : Option Addr) (c1 : Nat) (T1 : List (List Bt)) (z2 : Int) (w : World) (hu0 : ArgTf w T0 A0 D0) (hu1 : ArgT w A1 T1) (_ : (Lit.int .i64 z2).wf = true) :
    Calls Try.prog 11 #[.agg #[.int .i64 T0.b, .int .i64 T0.p, .slice A0 T0.n c0, .slice D0 T0.m d0], .agg #[.bool up1, .slice A1 T1.length c1], .int .i64 z2] w fun e w' => e = .returned (.bool true) ∧ Below w.heap.size w w' := by
  have hB := (((Below.refl w.heap.size w).alloc (Nat.le_refl _) (.cells #[.int .i64 T0.b, .int .i64 T0.p, .slice A0 T0.n c0, .slice D0 T0.m d0] 59)).alloc (by simp) (.cells #[.bool up1, .slice A1 T1.length c1] 24))
  have hl0 := ((Box4.new w (.int .i64 T0.b) (.int .i64 T0.p) (.slice A0 T0.n c0) (.slice D0 T0.m d0) 59).below ((Below.refl _ _).alloc (Nat.le_refl _) (.cells #[.bool up1, .slice A1 T1.length c1] 24)))
  have hl1 : TBox ((w.alloc (.cells #[.int .i64 T0.b, .int .i64 T0.p, .slice A0 T0.n c0, .slice D0 T0.m d0] 59)).alloc (.cells #[.bool up1, .slice A1 T1.length c1] 24)) (w.heap.size + 1) up1 A1 T1.length c1 := by have h := (TBox.new (w.alloc (.cells #[.int .i64 T0.b, .int .i64 T0.p, .slice A0 T0.n c0, .slice D0 T0.m d0] 59)) up1 A1 T1.length c1 24); simpa using h
  have hk0 : w.heap.size + 2 ≤ ((w.alloc (.cells #[.int .i64 T0.b, .int .i64 T0.p, .slice A0 T0.n c0, .slice D0 T0.m d0] 59)).alloc (.cells #[.bool up1, .slice A1 T1.length c1] 24)).heap.size := by simp
  have HB0 := vl hB
  have HL0_0 := vl hl0
  have HL1_0 := vl hl1
  obtain ⟨n1_0, n2_0, hsp0, hsi0⟩ := hu0
  have HSP0 := vl hsp0
  have HSI0 := vl hsi0
  clear hsp0 hsi0
  have HU1 := vl hu1
  have HA1_0 := vl (hu1.below hB)
  clear hu1
  generalize hW : ((w.alloc (.cells #[.int .i64 T0.b, .int .i64 T0.p, .slice A0 T0.n c0, .slice D0 T0.m d0] 59)).alloc (.cells #[.bool up1, .slice A1 T1.length c1] 24)) = W at HB0 hk0 HL0_0 HL1_0 HA1_0
  clear hB hl0 hl1
  obtain ⟨l0_0, l0_1, l0_2, l0_3⟩ := HL0_0.out.at
  obtain ⟨l1_0, l1_1⟩ := HL1_0.out
  by_cases hbig0 : (1048576 : Int) < (T0.n : Int) + T0.m
  · go_enter Try.func11, Try.ntmps11
    go_wp2_with fail
    clear hW
    refine (szTariff_no T0 A0 D0 c0 d0 _ _ (by omega) (by omega) n1_0 n2_0 hbig0).mono ?_
    rintro en w1 ⟨rfl, hb⟩
    have HBe := vl (HB0.out.trans (hb.mono HB0.out.size))
    clear hb
    go_wp2
    go_ret
    exact ⟨rfl, HBe.out⟩
  have hn0 : T0.n ≤ 1048576 := by omega
  have hm0 : T0.m ≤ 1048576 := by omega
  have hsz0 : (T0.n : Int) + T0.m ≤ 1048576 := by omega
  have hnn0 : (0 : Int) ≤ 1048576 - (T0.n : Int) - (T0.m : Int) := by omega
  clear hbig0
  go_enter Try.func11, Try.ntmps11
  go_wp2_with fail
  clear hW
  refine (szTariff_yes T0 A0 D0 c0 d0 _ _ (by omega) (by omega) hsz0).mono ?_
  rintro en w1 ⟨rfl, hb⟩
  clear l0_0 l0_1 l0_2 l0_3 l1_0 l1_1
  have HL0_1 := vl (HL0_0.out.below hb)
  have HL1_1 := vl (HL1_0.out.below hb)
  have HA1_1 := vl (HA1_0.out.below hb)
  clear HL0_0 HL1_0 HA1_0
  have HB1 := vl (HB0.out.trans (hb.mono HB0.out.size))
  have hk1 := hb.size
  clear hb
  obtain ⟨l0_0, l0_1, l0_2, l0_3⟩ := HL0_1.out.at
  obtain ⟨l1_0, l1_1⟩ := HL1_1.out
  by_cases hbig1 : 1048576 - (T0.n : Int) - (T0.m : Int) < (szT T1 : Int)
  · go_wp2_with fail
    refine (szTrain_no up1 A1 c1 T1 _ _ (by omega) (by omega) HA1_1.out hbig1).mono ?_
    rintro en w2 ⟨rfl, hb⟩
    have HBe := vl (HB1.out.trans (hb.mono HB1.out.size))
    clear hb
    go_wp2
    go_ret
    exact ⟨rfl, HBe.out⟩
  have hsz1 : (szT T1 : Int) ≤ 1048576 - (T0.n : Int) - (T0.m : Int) := by omega
  have HM1 := vl (mod_of (T := T1) (by omega))
  have hn1 := HM1.out.rows
  have HR1 := vl (fun r (hr : r ∈ T1) => HM1.out.row hr)
  have hnn1 : (0 : Int) ≤ 1048576 - (T0.n : Int) - (T0.m : Int) - (szT T1 : Int) := by omega
  clear hbig1
  go_wp2_with fail
  refine (szTrain_yes up1 A1 c1 T1 _ _ (by omega) HA1_1.out hsz1).mono ?_
  rintro en w2 ⟨rfl, hb⟩
  clear l0_0 l0_1 l0_2 l0_3 l1_0 l1_1
  clear HA1_1
  have HL0_2 := vl (HL0_1.out.below hb)
  have HL1_2 := vl (HL1_1.out.below hb)
  clear HL0_1 HL1_1
  have HB2 := vl (HB1.out.trans (hb.mono HB1.out.size))
  have hk2 := hb.size
  clear hb
  obtain ⟨l0_0, l0_1, l0_2, l0_3⟩ := HL0_2.out.at
  obtain ⟨l1_0, l1_1⟩ := HL1_2.out
  clear hnn0 hnn1
  have hN : (tollL T0 T1 z2).length ≤ 1048576 := (Nat.le_trans (tollL_le T0 T1 z2) (by decide))
  go_wp2
  clear l0_0 l0_1 l0_2 l0_3 l1_0 l1_1
  generalize hg1 : w.heap.size + 1 = g1 at *
  obtain ⟨l0_0, l0_1, l0_2, l0_3⟩ := HL0_2.out.at
  obtain ⟨l1_0, l1_1⟩ := HL1_2.out
  go_region_held3 (fun w' => w'.cell? ⟨w.heap.size, 0, none⟩ = some (.int .i64 T0.b) ∧ w'.cell? ⟨w.heap.size, 1, none⟩ = some (.int .i64 T0.p) ∧ w'.cell? ⟨w.heap.size, 2, none⟩ = some (.slice A0 T0.n c0) ∧ w'.cell? ⟨w.heap.size, 3, none⟩ = some (.slice D0 T0.m d0) ∧ w'.cell? ⟨g1, 0, none⟩ = some (.bool up1) ∧ w'.cell? ⟨g1, 1, none⟩ = some (.slice A1 T1.length c1) ∧ Below w2.heap.size w2 w')
    (first | exact ⟨l0_0, l0_1, l0_2, l0_3, l1_0, l1_1, Below.refl _ _⟩ | exact ⟨l0_0, l0_1, l0_2, l0_3, l1_0, l1_1, (Below.refl _ _).drew⟩ | assumption)
    (first
      | (go_at_call 34; obtain ⟨q0, q1, q2, q3, q4, q5, hb7⟩ : _ ∧ _ ∧ _ ∧ _ ∧ _ ∧ _ ∧ Below w2.heap.size w2 _ := by assumption
         refine (toTariff T0 A0 D0 c0 d0 _ hn0 hm0 (HSP0.out.below (HB2.out.trans (hb7.mono HB2.out.size))) (HSI0.out.below (HB2.out.trans (hb7.mono HB2.out.size)))).mono ?_
         rintro en w' ⟨⟨As0, cs0, Ds0, ds0, gs0, hs0, rfl, hos0⟩, hb'⟩
         have HOs0 := vl hos0
         have S0 := And.intro ((hb'.cell (cell_lt' q0)).trans q0) (And.intro ((hb'.cell (cell_lt' q1)).trans q1) (And.intro ((hb'.cell (cell_lt' q2)).trans q2) (And.intro ((hb'.cell (cell_lt' q3)).trans q3) (And.intro ((hb'.cell (cell_lt' q4)).trans q4) (And.intro ((hb'.cell (cell_lt' q5)).trans q5) (hb7.trans (hb'.mono hb7.size)))))))
         clear hb' hos0)
      | (go_at_call 16; obtain ⟨q0, q1, q2, q3, q4, q5, hb7⟩ : _ ∧ _ ∧ _ ∧ _ ∧ _ ∧ _ ∧ Below w2.heap.size w2 _ := by assumption
         refine (toTrain up1 A1 c1 T1 _ hn1 HR1.out (HU1.out.src.below (HB2.out.trans (hb7.mono HB2.out.size)))).mono ?_
         rintro en w' ⟨⟨As1, cs1, gs1, Gs1, rfl, _, hos1⟩, hb'⟩
         have HOs0' := vl (HOs0.out.below hb')
         have HOs1 := vl hos1.trn
         have S1 := And.intro ((hb'.cell (cell_lt' q0)).trans q0) (And.intro ((hb'.cell (cell_lt' q1)).trans q1) (And.intro ((hb'.cell (cell_lt' q2)).trans q2) (And.intro ((hb'.cell (cell_lt' q3)).trans q3) (And.intro ((hb'.cell (cell_lt' q4)).trans q4) (And.intro ((hb'.cell (cell_lt' q5)).trans q5) (hb7.trans (hb'.mono hb7.size)))))))
         clear hb' hos1)
      | (go_at_call 50; obtain ⟨q0, q1, q2, q3, q4, q5, hb7⟩ : _ ∧ _ ∧ _ ∧ _ ∧ _ ∧ _ ∧ Below w2.heap.size w2 _ := by assumption
         refine (tol_spec _ _ _ _ _ _ _ _ _ z2 _ hn0 hm0 HOs0'.out.1.srcG HOs0'.out.2.2.1.srcG HM1.out HOs1.out).mono ?_
         rintro en w' ⟨⟨As, cs, gs, rfl, hrs, _, _, hls⟩, hb'⟩
         have HRs := vl hrs
         have HLTs := vl hls
         have S2 := And.intro ((hb'.cell (cell_lt' q0)).trans q0) (And.intro ((hb'.cell (cell_lt' q1)).trans q1) (And.intro ((hb'.cell (cell_lt' q2)).trans q2) (And.intro ((hb'.cell (cell_lt' q3)).trans q3) (And.intro ((hb'.cell (cell_lt' q4)).trans q4) (And.intro ((hb'.cell (cell_lt' q5)).trans q5) (hb7.trans (hb'.mono hb7.size)))))))
         clear hb' hrs hls))
  all_goals
  obtain ⟨q0, q1, q2, q3, q4, q5, hb9⟩ : _ ∧ _ ∧ _ ∧ _ ∧ _ ∧ _ ∧ Below w2.heap.size w2 _ := by assumption
  obtain ⟨w3, hw9⟩ : ∃ u, u = w' := ⟨_, rfl⟩
  rw [← hw9] at q0 q1 q2 q3 q4 q5 hb9 HRs HLTs ⊢
  clear hw9 q0 q1 q2 q3 q4 q5 S0 S1 S2 HOs0 HOs0' HOs1
  clear l0_0 l0_1 l0_2 l0_3 l1_0 l1_1
  have HL0_3 := vl (HL0_2.out.below hb9)
  have HL1_3 := vl (HL1_2.out.below hb9)
  clear HL0_2 HL1_2
  have HB3 := vl (HB2.out.trans (hb9.mono HB2.out.size))
  have hk3 := hb9.size
  clear hb9
  have HW_3 := HRs
  have hWl := HLTs.out
  clear HRs HLTs
  obtain ⟨l0_0, l0_1, l0_2, l0_3⟩ := HL0_3.out.at
  go_wp2_with fail
  refine (toTariff T0 A0 D0 c0 d0 _ hn0 hm0 (HSP0.out.below HB3.out) (HSI0.out.below HB3.out)).mono ?_
  rintro en w4 ⟨⟨Ax0, cx0, Dx0, dx0, gx0, hx0, rfl, hox0⟩, hb⟩
  have hba := hb.trans (((Below.refl w4.heap.size w4).alloc (Nat.le_refl _) (.cells #[.int .i64 T0.b, .int .i64 T0.p, .slice Ax0 T0.n cx0, .slice Dx0 T0.m dx0] 62)).mono hb.size)
  have HX0_4 := vl (Box4.new w4 (.int .i64 T0.b) (.int .i64 T0.p) (.slice Ax0 T0.n cx0) (.slice Dx0 T0.m dx0) 62)
  have HO0_4 := vl (hox0.below ((Below.refl w4.heap.size w4).alloc (Nat.le_refl _) (.cells #[.int .i64 T0.b, .int .i64 T0.p, .slice Ax0 T0.n cx0, .slice Dx0 T0.m dx0] 62)))
  have hbx0 : w3.heap.size ≤ w4.heap.size := hb.size
  have hby0 : (w4.alloc (.cells #[.int .i64 T0.b, .int .i64 T0.p, .slice Ax0 T0.n cx0, .slice Dx0 T0.m dx0] 62)).heap.size = w4.heap.size + 1 := by simp
  clear l0_0 l0_1 l0_2 l0_3
  have HL0_4 := vl (HL0_3.out.below hba)
  have HL1_4 := vl (HL1_3.out.below hba)
  have HW_4 := vl (HW_3.out.below hba)
  clear HL0_3 HL1_3 HW_3
  have HB4 := vl (HB3.out.trans (hba.mono HB3.out.size))
  have hk4 := hba.size
  clear hb hba hox0
  obtain ⟨l1_0, l1_1⟩ := HL1_4.out
  go_wp2_with fail
  refine (toTrain up1 A1 c1 T1 _ hn1 HR1.out (HU1.out.src.below HB4.out)).mono ?_
  rintro en w5 ⟨⟨Ax1, cx1, gx1, Gx1, rfl, _, hox1⟩, hb⟩
  have hba := hb.trans (((Below.refl w5.heap.size w5).alloc (Nat.le_refl _) (.cells #[.bool up1, .slice Ax1 T1.length cx1] 29)).mono hb.size)
  have HX1_5 := vl (TBox.new w5 up1 Ax1 T1.length cx1 29)
  have HO1_5 := vl (hox1.below ((Below.refl w5.heap.size w5).alloc (Nat.le_refl _) (.cells #[.bool up1, .slice Ax1 T1.length cx1] 29)))
  have hbx1 : (w4.alloc (.cells #[.int .i64 T0.b, .int .i64 T0.p, .slice Ax0 T0.n cx0, .slice Dx0 T0.m dx0] 62)).heap.size ≤ w5.heap.size := hb.size
  have hby1 : (w5.alloc (.cells #[.bool up1, .slice Ax1 T1.length cx1] 29)).heap.size = w5.heap.size + 1 := by simp
  clear l1_0 l1_1
  have HL0_5 := vl (HL0_4.out.below hba)
  have HL1_5 := vl (HL1_4.out.below hba)
  have HW_5 := vl (HW_4.out.below hba)
  have HX0_5 := vl (HX0_4.out.below hba)
  have HO0_5 := vl (HO0_4.out.below hba)
  clear HL0_4 HL1_4 HW_4 HX0_4 HO0_4
  have HB5 := vl (HB4.out.trans (hba.mono HB4.out.size))
  have hk5 := hba.size
  clear hb hba hox1
  obtain ⟨x0_0, x0_1, x0_2, x0_3⟩ := HX0_5.out.at
  obtain ⟨x1_0, x1_1⟩ := HX1_5.out
  go_wp2_with fail
  refine (tol_impl T0 Ax0 Dx0 cx0 dx0 up1 Ax1 cx1 T1 z2 _ hn0 hm0 HO0_5.out.1.srcG HO0_5.out.2.2.1.srcG HM1.out HO1_5.out.trn).mono ?_
  rintro en w6 ⟨⟨Ag, cg, gG, rfl, hrG, hfG, hgG, hlG⟩, hb⟩
  clear x0_0 x0_1 x0_2 x0_3 x1_0 x1_1
  have HL0_6 := vl (HL0_5.out.below hb)
  have HL1_6 := vl (HL1_5.out.below hb)
  have HW_6 := vl (HW_5.out.below hb)
  have HX0_6 := vl (HX0_5.out.below hb)
  have HO0_6 := vl (HO0_5.out.below hb)
  have HX1_6 := vl (HX1_5.out.below hb)
  have HO1_6 := vl (HO1_5.out.below hb)
  clear HL0_5 HL1_5 HW_5 HX0_5 HO0_5 HX1_5 HO1_5
  have HB6 := vl (HB5.out.trans (hb.mono HB5.out.size))
  have hk6 := hb.size
  clear hb
  have HG_6 := vl hrG
  have HGF_6 := vl hfG
  clear hrG hfG
  go_wp2_with fail
  refine (eqEntryS _ _ _ _ (tollL T0 T1 z2) _ hN HG_6.out.ens HW_6.out.ens).mono ?_
  rintro en w7 ⟨rfl, hb⟩
  have HL0_7 := vl (HL0_6.out.below hb)
  have HL1_7 := vl (HL1_6.out.below hb)
  have HW_7 := vl (HW_6.out.below hb)
  have HX0_7 := vl (HX0_6.out.below hb)
  have HO0_7 := vl (HO0_6.out.below hb)
  have HX1_7 := vl (HX1_6.out.below hb)
  have HO1_7 := vl (HO1_6.out.below hb)
  have HG_7 := vl (HG_6.out.below hb)
  have HGF_7 := vl (HGF_6.out.below (fun hn => by have := hlG (by omega); omega) hb)
  clear HL0_6 HL1_6 HW_6 HX0_6 HO0_6 HX1_6 HO1_6 HG_6 HGF_6
  have HB7 := vl (HB6.out.trans (hb.mono HB6.out.size))
  have hk7 := hb.size
  clear hb
  obtain ⟨l0_0, l0_1, l0_2, l0_3⟩ := HL0_7.out.at
  obtain ⟨x0_0, x0_1, x0_2, x0_3⟩ := HX0_7.out.at
  go_wp2
  go_region_held3 (fun w' => w'.cell? ⟨w.heap.size, 0, none⟩ = some (.int .i64 T0.b) ∧ w'.cell? ⟨w.heap.size, 1, none⟩ = some (.int .i64 T0.p) ∧ w'.cell? ⟨w.heap.size, 2, none⟩ = some (.slice A0 T0.n c0) ∧ w'.cell? ⟨w.heap.size, 3, none⟩ = some (.slice D0 T0.m d0) ∧ w'.cell? ⟨w4.heap.size, 0, none⟩ = some (.int .i64 T0.b) ∧ w'.cell? ⟨w4.heap.size, 1, none⟩ = some (.int .i64 T0.p) ∧ w'.cell? ⟨w4.heap.size, 2, none⟩ = some (.slice Ax0 T0.n cx0) ∧ w'.cell? ⟨w4.heap.size, 3, none⟩ = some (.slice Dx0 T0.m dx0) ∧ Below w7.heap.size w7 w')
    (first | exact ⟨l0_0, l0_1, l0_2, l0_3, x0_0, x0_1, x0_2, x0_3, Below.refl _ _⟩ | exact ⟨l0_0, l0_1, l0_2, l0_3, x0_0, x0_1, x0_2, x0_3, (Below.refl _ _).drew⟩ | assumption)
    (first
      | (go_at_call 34; obtain ⟨q0, q1, q2, q3, q4, q5, q6, q7, hb7⟩ : _ ∧ _ ∧ _ ∧ _ ∧ _ ∧ _ ∧ _ ∧ _ ∧ Below w7.heap.size w7 _ := by assumption
         refine (toTariff T0 A0 D0 c0 d0 _ hn0 hm0 (HSP0.out.below (HB7.out.trans (hb7.mono HB7.out.size))) (HSI0.out.below (HB7.out.trans (hb7.mono HB7.out.size)))).mono ?_
         rintro en w' ⟨⟨Ae0, ce0, De0, de0, ge0, he0, rfl, hoe0⟩, hb'⟩
         have HOE := vl hoe0
         have S0 := And.intro ((hb'.cell (cell_lt' q0)).trans q0) (And.intro ((hb'.cell (cell_lt' q1)).trans q1) (And.intro ((hb'.cell (cell_lt' q2)).trans q2) (And.intro ((hb'.cell (cell_lt' q3)).trans q3) (And.intro ((hb'.cell (cell_lt' q4)).trans q4) (And.intro ((hb'.cell (cell_lt' q5)).trans q5) (And.intro ((hb'.cell (cell_lt' q6)).trans q6) (And.intro ((hb'.cell (cell_lt' q7)).trans q7) (hb7.trans (hb'.mono hb7.size)))))))))
         clear hb' hoe0)
      | (go_at_call 36; obtain ⟨q0, q1, q2, q3, q4, q5, q6, q7, hb7⟩ : _ ∧ _ ∧ _ ∧ _ ∧ _ ∧ _ ∧ _ ∧ _ ∧ Below w7.heap.size w7 _ := by assumption
         refine (eqTariff T0 _ _ _ _ _ _ _ _ _ hn0 hm0 (HO0_7.out.below hb7) HOE.out).mono ?_
         rintro en w' ⟨rfl, hb'⟩
         have S1 := And.intro ((hb'.cell (cell_lt' q0)).trans q0) (And.intro ((hb'.cell (cell_lt' q1)).trans q1) (And.intro ((hb'.cell (cell_lt' q2)).trans q2) (And.intro ((hb'.cell (cell_lt' q3)).trans q3) (And.intro ((hb'.cell (cell_lt' q4)).trans q4) (And.intro ((hb'.cell (cell_lt' q5)).trans q5) (And.intro ((hb'.cell (cell_lt' q6)).trans q6) (And.intro ((hb'.cell (cell_lt' q7)).trans q7) (hb7.trans (hb'.mono hb7.size)))))))))
         clear hb'))
  all_goals
  obtain ⟨q0, q1, q2, q3, q4, q5, q6, q7, hb9⟩ : _ ∧ _ ∧ _ ∧ _ ∧ _ ∧ _ ∧ _ ∧ _ ∧ Below w7.heap.size w7 _ := by assumption
  obtain ⟨w8, hw9⟩ : ∃ u, u = w' := ⟨_, rfl⟩
  rw [← hw9] at q0 q1 q2 q3 q4 q5 q6 q7 hb9  ⊢
  clear hw9 q0 q1 q2 q3 q4 q5 q6 q7 S0 S1 HOE
  clear l0_0 l0_1 l0_2 l0_3 x0_0 x0_1 x0_2 x0_3
  have HL0_8 := vl (HL0_7.out.below hb9)
  have HL1_8 := vl (HL1_7.out.below hb9)
  have HW_8 := vl (HW_7.out.below hb9)
  have HX0_8 := vl (HX0_7.out.below hb9)
  have HO0_8 := vl (HO0_7.out.below hb9)
  have HX1_8 := vl (HX1_7.out.below hb9)
  have HO1_8 := vl (HO1_7.out.below hb9)
  have HG_8 := vl (HG_7.out.below hb9)
  have HGF_8 := vl (HGF_7.out.below (fun hn => by have := hlG (by omega); omega) hb9)
  clear HL0_7 HL1_7 HW_7 HX0_7 HO0_7 HX1_7 HO1_7 HG_7 HGF_7
  have HB8 := vl (HB7.out.trans (hb9.mono HB7.out.size))
  have hk8 := hb9.size
  clear hb9
  obtain ⟨l1_0, l1_1⟩ := HL1_8.out
  obtain ⟨x1_0, x1_1⟩ := HX1_8.out
  go_wp2
  go_region_held3 (fun w' => w'.cell? ⟨g1, 0, none⟩ = some (.bool up1) ∧ w'.cell? ⟨g1, 1, none⟩ = some (.slice A1 T1.length c1) ∧ w'.cell? ⟨w5.heap.size, 0, none⟩ = some (.bool up1) ∧ w'.cell? ⟨w5.heap.size, 1, none⟩ = some (.slice Ax1 T1.length cx1) ∧ Below w8.heap.size w8 w')
    (first | exact ⟨l1_0, l1_1, x1_0, x1_1, Below.refl _ _⟩ | exact ⟨l1_0, l1_1, x1_0, x1_1, (Below.refl _ _).drew⟩ | assumption)
    (first
      | (go_at_call 16; obtain ⟨q0, q1, q2, q3, hb7⟩ : _ ∧ _ ∧ _ ∧ _ ∧ Below w8.heap.size w8 _ := by assumption
         refine (toTrain up1 A1 c1 T1 _ hn1 HR1.out (HU1.out.src.below (HB8.out.trans (hb7.mono HB8.out.size)))).mono ?_
         rintro en w' ⟨⟨Ae1, ce1, ge1, Ge1, rfl, _, hoe1⟩, hb'⟩
         have HOE := vl hoe1.trn
         have S0 := And.intro ((hb'.cell (cell_lt' q0)).trans q0) (And.intro ((hb'.cell (cell_lt' q1)).trans q1) (And.intro ((hb'.cell (cell_lt' q2)).trans q2) (And.intro ((hb'.cell (cell_lt' q3)).trans q3) (hb7.trans (hb'.mono hb7.size)))))
         clear hb' hoe1)
      | (go_at_call 18; obtain ⟨q0, q1, q2, q3, hb7⟩ : _ ∧ _ ∧ _ ∧ _ ∧ Below w8.heap.size w8 _ := by assumption
         refine (eqTrain up1 _ _ _ _ T1 _ hn1 HR1.out (HO1_8.out.trn.below hb7) HOE.out).mono ?_
         rintro en w' ⟨rfl, hb'⟩
         have S1 := And.intro ((hb'.cell (cell_lt' q0)).trans q0) (And.intro ((hb'.cell (cell_lt' q1)).trans q1) (And.intro ((hb'.cell (cell_lt' q2)).trans q2) (And.intro ((hb'.cell (cell_lt' q3)).trans q3) (hb7.trans (hb'.mono hb7.size)))))
         clear hb'))
  all_goals
  obtain ⟨q0, q1, q2, q3, hb9⟩ : _ ∧ _ ∧ _ ∧ _ ∧ Below w8.heap.size w8 _ := by assumption
  obtain ⟨w9, hw9⟩ : ∃ u, u = w' := ⟨_, rfl⟩
  rw [← hw9] at q0 q1 q2 q3 hb9  ⊢
  clear hw9 q0 q1 q2 q3 S0 S1 HOE
  clear l1_0 l1_1 x1_0 x1_1
  have HL0_9 := vl (HL0_8.out.below hb9)
  have HL1_9 := vl (HL1_8.out.below hb9)
  have HW_9 := vl (HW_8.out.below hb9)
  have HX0_9 := vl (HX0_8.out.below hb9)
  have HO0_9 := vl (HO0_8.out.below hb9)
  have HX1_9 := vl (HX1_8.out.below hb9)
  have HO1_9 := vl (HO1_8.out.below hb9)
  have HG_9 := vl (HG_8.out.below hb9)
  have HGF_9 := vl (HGF_8.out.below (fun hn => by have := hlG (by omega); omega) hb9)
  clear HL0_8 HL1_8 HW_8 HX0_8 HO0_8 HX1_8 HO1_8 HG_8 HGF_8
  have HB9 := vl (HB8.out.trans (hb9.mono HB8.out.size))
  have hk9 := hb9.size
  clear hb9
  obtain ⟨x0_0, x0_1, x0_2, x0_3⟩ := HX0_9.out.at
  go_wp2_with fail
  refine (markTariff T0 Ax0 Dx0 cx0 dx0 1 _ hn0 hm0 (by omega) HO0_9.out (by omega)).mono ?_
  rintro en w10 ⟨rfl, ht⟩
  clear x0_0 x0_1 x0_2 x0_3
  have HB10 := vl (ht.below HB9.out (by omega))
  have hk10 := ht.size
  have HL0_10 := vl (HL0_9.out.touch ht (Or.inl (by omega)))
  have HL1_10 := vl (HL1_9.out.touch ht (Or.inl (by omega)))
  have HW_10 := vl (ht.rowE HW_9.out (fun hn => Or.inl (by have := hWl hn; omega)))
  have HX1_10 := vl (HX1_9.out.touch ht (Or.inr (by omega)))
  have HO1_10 := vl (HO1_9.out.touch ht (Or.inr (by omega)))
  have HG_10 := vl (ht.rowE HG_9.out (fun hn => Or.inr (by omega)))
  have HGF_10 := vl (ht.free HGF_9.out (fun hn => by have := hlG (by omega); omega) (fun hn => Or.inr (by omega)))
  clear ht HL0_9 HL1_9 HW_9 HX0_9 HO0_9 HX1_9 HO1_9 HG_9 HGF_9
  obtain ⟨x1_0, x1_1⟩ := HX1_10.out
  go_wp2_with fail
  refine (markTrain up1 Ax1 cx1 (1 + T0.n + T0.m) T1 _ HM1.out (by omega) HO1_10.out (by omega)).mono ?_
  rintro en w11 ⟨rfl, _, ht⟩
  clear x1_0 x1_1
  have HB11 := vl (ht.below HB10.out (by omega))
  have hk11 := ht.size
  have HL0_11 := vl (HL0_10.out.touch ht (Or.inl (by omega)))
  have HL1_11 := vl (HL1_10.out.touch ht (Or.inl (by omega)))
  have HW_11 := vl (ht.rowE HW_10.out (fun hn => Or.inl (by have := hWl hn; omega)))
  have HG_11 := vl (ht.rowE HG_10.out (fun hn => Or.inr (by omega)))
  have HGF_11 := vl (ht.free HGF_10.out (fun hn => by have := hlG (by omega); omega) (fun hn => Or.inr (by omega)))
  clear ht HL0_10 HL1_10 HW_10 HX1_10 HO1_10 HG_10 HGF_10
  go_wp2_with fail
  refine (eqEntryS _ _ _ _ (tollL T0 T1 z2) _ hN HG_11.out.ens HW_11.out.ens).mono ?_
  rintro en w12 ⟨rfl, hb⟩
  have HL0_12 := vl (HL0_11.out.below hb)
  have HL1_12 := vl (HL1_11.out.below hb)
  have HW_12 := vl (HW_11.out.below hb)
  have HG_12 := vl (HG_11.out.below hb)
  have HGF_12 := vl (HGF_11.out.below (fun hn => by have := hlG (by omega); omega) hb)
  clear HL0_11 HL1_11 HW_11 HG_11 HGF_11
  have HB12 := vl (HB11.out.trans (hb.mono HB11.out.size))
  have hk12 := hb.size
  clear hb
  go_wp2_with fail
  refine (markE _ _ _ 1 (tollL T0 T1 z2) _ hN (by omega) HG_12.out HGF_12.out).mono ?_
  rintro en w13 ⟨rfl, hr, _, ht0⟩
  have ht := ht0 ((w5.alloc (.cells #[.bool up1, .slice Ax1 T1.length cx1] 29)).heap.size) (gG + 1) (fun _ => ⟨hgG, Nat.lt_succ_self _⟩)
  clear ht0
  have HB13 := vl (ht.below HB12.out (by omega))
  have hk13 := ht.size
  have HW_13 := vl (ht.rowE HW_12.out (fun hn => Or.inl (by have := hWl hn; omega)))
  have HL0_13 := vl (HL0_12.out.touch ht (Or.inl (by omega)))
  have HL1_13 := vl (HL1_12.out.touch ht (Or.inl (by omega)))
  have HG_13 := vl hr
  clear ht hr HL0_12 HL1_12 HW_12 HG_12 HGF_12
  go_wp2_with fail
  refine (heldEntryS _ _ _ 1 _ _ hN (by omega) HG_13.out).mono ?_
  rintro en w14 ⟨rfl, hbe⟩
  subst hbe
  have HB14 := HB13
  have hk14 := hk13
  have HL0_14 := HL0_13
  have HL1_14 := HL1_13
  have HW_14 := HW_13
  have HG_14 := HG_13
  clear HB13 HL0_13 HL1_13 HW_13 HG_13
  obtain ⟨l0_0, l0_1, l0_2, l0_3⟩ := HL0_14.out.at
  obtain ⟨l1_0, l1_1⟩ := HL1_14.out
  go_wp2
  go_region_held3 (fun w' => w'.cell? ⟨w.heap.size, 0, none⟩ = some (.int .i64 T0.b) ∧ w'.cell? ⟨w.heap.size, 1, none⟩ = some (.int .i64 T0.p) ∧ w'.cell? ⟨w.heap.size, 2, none⟩ = some (.slice A0 T0.n c0) ∧ w'.cell? ⟨w.heap.size, 3, none⟩ = some (.slice D0 T0.m d0) ∧ w'.cell? ⟨g1, 0, none⟩ = some (.bool up1) ∧ w'.cell? ⟨g1, 1, none⟩ = some (.slice A1 T1.length c1) ∧ Below w13.heap.size w13 w')
    (first | exact ⟨l0_0, l0_1, l0_2, l0_3, l1_0, l1_1, Below.refl _ _⟩ | exact ⟨l0_0, l0_1, l0_2, l0_3, l1_0, l1_1, (Below.refl _ _).drew⟩ | assumption)
    (first
      | (go_at_call 34; obtain ⟨q0, q1, q2, q3, q4, q5, hb7⟩ : _ ∧ _ ∧ _ ∧ _ ∧ _ ∧ _ ∧ Below w13.heap.size w13 _ := by assumption
         refine (toTariff T0 A0 D0 c0 d0 _ hn0 hm0 (HSP0.out.below (HB14.out.trans (hb7.mono HB14.out.size))) (HSI0.out.below (HB14.out.trans (hb7.mono HB14.out.size)))).mono ?_
         rintro en w' ⟨⟨Ah0, ch0, Dh0, dh0, gh0, hh0, rfl, hoh0⟩, hb'⟩
         have HOh0 := vl hoh0
         have S0 := And.intro ((hb'.cell (cell_lt' q0)).trans q0) (And.intro ((hb'.cell (cell_lt' q1)).trans q1) (And.intro ((hb'.cell (cell_lt' q2)).trans q2) (And.intro ((hb'.cell (cell_lt' q3)).trans q3) (And.intro ((hb'.cell (cell_lt' q4)).trans q4) (And.intro ((hb'.cell (cell_lt' q5)).trans q5) (hb7.trans (hb'.mono hb7.size)))))))
         clear hb' hoh0)
      | (go_at_call 16; obtain ⟨q0, q1, q2, q3, q4, q5, hb7⟩ : _ ∧ _ ∧ _ ∧ _ ∧ _ ∧ _ ∧ Below w13.heap.size w13 _ := by assumption
         refine (toTrain up1 A1 c1 T1 _ hn1 HR1.out (HU1.out.src.below (HB14.out.trans (hb7.mono HB14.out.size)))).mono ?_
         rintro en w' ⟨⟨Ah1, ch1, gh1, Gh1, rfl, _, hoh1⟩, hb'⟩
         have HOh0' := vl (HOh0.out.below hb')
         have HOh1 := vl hoh1.trn
         have S1 := And.intro ((hb'.cell (cell_lt' q0)).trans q0) (And.intro ((hb'.cell (cell_lt' q1)).trans q1) (And.intro ((hb'.cell (cell_lt' q2)).trans q2) (And.intro ((hb'.cell (cell_lt' q3)).trans q3) (And.intro ((hb'.cell (cell_lt' q4)).trans q4) (And.intro ((hb'.cell (cell_lt' q5)).trans q5) (hb7.trans (hb'.mono hb7.size)))))))
         clear hb' hoh1)
      | (go_at_call 51; obtain ⟨q0, q1, q2, q3, q4, q5, hb7⟩ : _ ∧ _ ∧ _ ∧ _ ∧ _ ∧ _ ∧ Below w13.heap.size w13 _ := by assumption
         refine (tol_impl _ _ _ _ _ _ _ _ _ z2 _ hn0 hm0 HOh0'.out.1.srcG HOh0'.out.2.2.1.srcG HM1.out HOh1.out).mono ?_
         rintro en w' ⟨⟨Ah, ch, gh, rfl, hrh, _, _, hlh⟩, hb'⟩
         have HRh := vl hrh
         have HLTh := vl hlh
         have S2 := And.intro ((hb'.cell (cell_lt' q0)).trans q0) (And.intro ((hb'.cell (cell_lt' q1)).trans q1) (And.intro ((hb'.cell (cell_lt' q2)).trans q2) (And.intro ((hb'.cell (cell_lt' q3)).trans q3) (And.intro ((hb'.cell (cell_lt' q4)).trans q4) (And.intro ((hb'.cell (cell_lt' q5)).trans q5) (hb7.trans (hb'.mono hb7.size)))))))
         clear hb' hrh hlh))
  all_goals
  obtain ⟨q0, q1, q2, q3, q4, q5, hb9⟩ : _ ∧ _ ∧ _ ∧ _ ∧ _ ∧ _ ∧ Below w13.heap.size w13 _ := by assumption
  obtain ⟨w15, hw9⟩ : ∃ u, u = w' := ⟨_, rfl⟩
  rw [← hw9] at q0 q1 q2 q3 q4 q5 hb9 HRh HLTh ⊢
  clear hw9 q0 q1 q2 q3 q4 q5 S0 S1 S2 HOh0 HOh0' HOh1
  clear l0_0 l0_1 l0_2 l0_3 l1_0 l1_1
  have HL0_15 := vl (HL0_14.out.below hb9)
  have HL1_15 := vl (HL1_14.out.below hb9)
  have HW_15 := vl (HW_14.out.below hb9)
  have HG_15 := vl (HG_14.out.below hb9)
  clear HL0_14 HL1_14 HW_14 HG_14
  have HB15 := vl (HB14.out.trans (hb9.mono HB14.out.size))
  have hk15 := hb9.size
  clear hb9
  have HH_15 := HRh
  clear HRh HLTh
  go_wp2_with fail
  refine (eqEntryS _ _ _ _ (tollL T0 T1 z2) _ hN HH_15.out.ens HW_15.out.ens).mono ?_
  rintro en w16 ⟨rfl, hb⟩
  have HL0_16 := vl (HL0_15.out.below hb)
  have HL1_16 := vl (HL1_15.out.below hb)
  have HW_16 := vl (HW_15.out.below hb)
  have HG_16 := vl (HG_15.out.below hb)
  have HH_16 := vl (HH_15.out.below hb)
  clear HL0_15 HL1_15 HW_15 HG_15 HH_15
  have HB16 := vl (HB15.out.trans (hb.mono HB15.out.size))
  have hk16 := hb.size
  clear hb
  go_wp2_with fail
  refine (heldEntryS _ _ _ 1 _ _ hN (by omega) HG_16.out).mono ?_
  rintro en w17 ⟨rfl, hbe⟩
  subst hbe
  have HB17 := HB16
  have hk17 := hk16
  have HL0_17 := HL0_16
  have HL1_17 := HL1_16
  have HW_17 := HW_16
  have HG_17 := HG_16
  have HH_17 := HH_16
  clear HB16 HL0_16 HL1_16 HW_16 HG_16 HH_16
  go_wp2
  go_ret
  exact ⟨rfl, HB17.out⟩

theorem parOk : Try.f11.params.toList.all (fun t => Try.prog.readableRec t && decide (t < Try.prog.types.size)) = true := by kernel_rfl
set_option maxRecDepth 100000 in
theorem lifted (os : Os) (started : os.Started) (H : Type) (enc : TypeId × Value → H) :
    ReturnsInHanded {} Try.checked os 11 .any (Rows.fnExactTollEntriesSpec.pre6 enc Try.prog Try.f11 Rows.fnExactTollEntriesRow.domain false) (Rows.fnExactTollEntriesSpec.post enc Try.prog Try.f11 false true false false) := by
  refine law_lifted (C := Try.checked) own started (by kernel_rfl) Try.func11 laid (fun t ht => by
      have h := List.all_eq_true.1 parOk t ht
      rw [Bool.and_eq_true] at h
      exact ⟨h.1, of_decide_eq_true h.2⟩) rfl Try.underlying4 rfl
    (fun xs hx => by
      rw [show Try.f11.params.toList.length = 3 from by rw [Try.params11]; rfl] at hx
      match xs, hx with
      | [d0, d1, d2], _ => rfl)
    (ChangeSpec.witness6 (enc := enc) (C := Try.checked) false ⟨#[], #[.agg #[.int .i64 0, .int .i64 0, .slice none 0 0, .slice none 0 0], .agg #[.bool false, .slice none 0 0], .int .i64 0], []⟩ 8 (by kernel_rfl) (by kernel_rfl) (by kernel_rfl) (by kernel_rfl)) ?_
  intro W base args ds p hval0 hA0 _
  have hval : ∀ (j : Nat) t v, Try.f11.params[j]? = some t → args[j]? = some v → Value.okWide Try.prog W .any base t v := hval0
  have hA : DataW.TrodAll enc Try.prog W 0 (fun _ => true) true Try.f11.params.toList args.toList ds p := hA0
  clear hA0 hval0
  rw [Try.params11] at hA hval
  obtain ⟨v0, vs0, d0, ds0, p0, q0, hargs, rfl, rfl, h0, r0⟩ := trodAll_cons hA
  obtain ⟨v1, vs1, d1, ds1, p1, q1, rfl, rfl, rfl, h1, r1⟩ := trodAll_cons r0
  obtain ⟨v2, vs2, d2, ds2, p2, q2, rfl, rfl, rfl, h2, r2⟩ := trodAll_cons r1
  obtain ⟨rfl, rfl, rfl⟩ := trodAll_nil r2
  obtain rfl : args = #[v0, v1, v2] := by cases args; simp_all
  obtain ⟨T0, A0, D0, c0, d0, rfl, x0⟩ := open_tariff (hval 0 59 _ rfl rfl) h0
  obtain ⟨up1, A1, c1, T1, rfl, x1⟩ := open_train (hval 1 24 _ rfl rfl) h1
  obtain ⟨a2, rfl, rfl, _, x2⟩ := open_int Try.underlying3 (hval 2 3 _ rfl rfl) h2
  exact walk T0 A0 D0 c0 d0 up1 A1 c1 T1 a2 W x0 x1 x2

/-- The statement. -/
theorem proved : Rows.FnExactTollEntriesSaid :=
  OpenClaim.holds_of_wide 11 Try.f11 rfl rfl rfl rfl rfl rfl rfl ⟨rfl, rfl, rfl, rfl, rfl⟩ rfl rfl rfl rfl rfl (by kernel_rfl) Try.func11 (by show joinedFacts Try.prog _ _ _ _ = true; unfold joinedFacts; rw [Io.mayEnter, Io.liftsFinal, Io.make]; kernel_rfl)
    (of_decide_eq_true (by kernel_rfl)) (by unfold Func.isWrapper; first | (rw [if_pos (by decide +kernel)]; kernel_rfl) | (rw [if_neg (by decide +kernel)]; exact ⟨rfl, rfl⟩))
    (fun os started H enc _ => lifted os started H enc)
#print axioms proved
end Go.Proofs.Ytngmpimoebggdaa.fnExactTollEntries
