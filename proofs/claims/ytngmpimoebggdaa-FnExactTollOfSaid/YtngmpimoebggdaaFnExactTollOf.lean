/-
  For every input the Go function 'laws.FnExactTollOf' returns true, and each argument reads afterwards as it read before. No further condition.
-/
import Derived.Test.YtngmpimoebggdaaTfT
import Derived.Test.YtngmpimoebggdaaTfO
import Derived.Test.YtngmpimoebggdaaTrId
import Derived.Test.YtngmpimoebggdaaTrnE
import Derived.Test.YtngmpimoebggdaaOpenT
import Derived.Test.YtngmpimoebggdaaTrLw
import Derived.Test.YtngmpimoebggdaaLift
import Derived.Test.YtngmpimoebggdaaIo
import Derived.Test.YtngmpimoebggdaaOpen
import Derived.ChangeMaps5
namespace Go.Proofs.Ytngmpimoebggdaa.fnExactTollOf
open Go.Proofs.Ytngmpimoebggdaa.C1 Go.Proofs.Ytngmpimoebggdaa.Lift Go.Proofs.Ytngmpimoebggdaa.Opened
open Go.ChangeShapes Go.WideShapes Go.ChangeAt Go.RowKit Go.ChangeMaps
set_option linter.unusedVariables false

set_option linter.unusedSimpArgs false
set_option maxRecDepth 100000 in
set_option maxHeartbeats 8000000 in
theorem walk (T0 : Tf) (A0 : Option Addr) (D0 : Option Addr) (c0 : Nat) (d0 : Nat) (up1 : Bool) (A1 : Option Addr) (c1 : Nat) (T1 : List (List Bt)) (w : World) (hu0 : ArgTf w T0 A0 D0) (hu1 : ArgT w A1 T1) :
    Calls Try.prog 8 #[.agg #[.int .i64 T0.b, .int .i64 T0.p, .slice A0 T0.n c0, .slice D0 T0.m d0], .agg #[.bool up1, .slice A1 T1.length c1]] w fun e w' => e = .returned (.bool true) ∧ Below w.heap.size w w' := by
  have hB := (((Below.refl w.heap.size w).alloc (Nat.le_refl _) (.cells #[.int .i64 T0.b, .int .i64 T0.p, .slice A0 T0.n c0, .slice D0 T0.m d0] 59)).alloc (by simp) (.cells #[.bool up1, .slice A1 T1.length c1] 24))
  have hl0 := ((Box4.new w (.int .i64 T0.b) (.int .i64 T0.p) (.slice A0 T0.n c0) (.slice D0 T0.m d0) 59).below ((Below.refl _ _).alloc (Nat.le_refl _) (.cells #[.bool up1, .slice A1 T1.length c1] 24)))
  have hl1 : TBox ((w.alloc (.cells #[.int .i64 T0.b, .int .i64 T0.p, .slice A0 T0.n c0, .slice D0 T0.m d0] 59)).alloc (.cells #[.bool up1, .slice A1 T1.length c1] 24)) (w.heap.size + 1) up1 A1 T1.length c1 := by have h := (TBox.new (w.alloc (.cells #[.int .i64 T0.b, .int .i64 T0.p, .slice A0 T0.n c0, .slice D0 T0.m d0] 59)) up1 A1 T1.length c1 24); simpa using h
  have HB0 := vl hB
  have HL0_0 := vl hl0
  have HL1_0 := vl hl1
  obtain ⟨n1_0, n2_0, hsp0, hsi0⟩ := hu0
  have HSP0 := vl hsp0
  have HSI0 := vl hsi0
  clear hsp0 hsi0
  have HU1 := vl hu1
  have HA1_0 := vl (hu1.below hB)
  clear hu1
  generalize hW : ((w.alloc (.cells #[.int .i64 T0.b, .int .i64 T0.p, .slice A0 T0.n c0, .slice D0 T0.m d0] 59)).alloc (.cells #[.bool up1, .slice A1 T1.length c1] 24)) = W at HB0 HL0_0 HL1_0 HA1_0
  clear hB hl0 hl1
  obtain ⟨l0_0, l0_1, l0_2, l0_3⟩ := HL0_0.out.at
  obtain ⟨l1_0, l1_1⟩ := HL1_0.out
  by_cases hbig0 : (1048576 : Int) < (T0.n : Int) + T0.m
  · go_enter Try.func8, Try.ntmps8
    go_wp2_with fail
    clear hW
    refine (szTariff_no T0 A0 D0 c0 d0 _ _ (by omega) (by omega) n1_0 n2_0 hbig0).mono ?_
    rintro en w1 ⟨rfl, hb⟩
    have HBe := vl (HB0.out.trans (hb.mono HB0.out.size))
    clear hb
    go_wp2
    go_ret
    exact ⟨rfl, HBe.out⟩
  have hn0 : T0.n ≤ 1048576 := by omega
  have hm0 : T0.m ≤ 1048576 := by omega
  have hsz0 : (T0.n : Int) + T0.m ≤ 1048576 := by omega
  have hnn0 : (0 : Int) ≤ 1048576 - (T0.n : Int) - (T0.m : Int) := by omega
  clear hbig0
  go_enter Try.func8, Try.ntmps8
  go_wp2_with fail
  clear hW
  refine (szTariff_yes T0 A0 D0 c0 d0 _ _ (by omega) (by omega) hsz0).mono ?_
  rintro en w1 ⟨rfl, hb⟩
  clear l0_0 l0_1 l0_2 l0_3 l1_0 l1_1
  have HL0_1 := vl (HL0_0.out.below hb)
  have HL1_1 := vl (HL1_0.out.below hb)
  have HA1_1 := vl (HA1_0.out.below hb)
  clear HL0_0 HL1_0 HA1_0
  have HB1 := vl (HB0.out.trans (hb.mono HB0.out.size))
  clear hb
  obtain ⟨l0_0, l0_1, l0_2, l0_3⟩ := HL0_1.out.at
  obtain ⟨l1_0, l1_1⟩ := HL1_1.out
  by_cases hbig1 : 1048576 - (T0.n : Int) - (T0.m : Int) < (szT T1 : Int)
  · go_wp2_with fail
    refine (szTrain_no up1 A1 c1 T1 _ _ (by omega) (by omega) HA1_1.out hbig1).mono ?_
    rintro en w2 ⟨rfl, hb⟩
    have HBe := vl (HB1.out.trans (hb.mono HB1.out.size))
    clear hb
    go_wp2
    go_ret
    exact ⟨rfl, HBe.out⟩
  have hsz1 : (szT T1 : Int) ≤ 1048576 - (T0.n : Int) - (T0.m : Int) := by omega
  have HM1 := vl (mod_of (T := T1) (by omega))
  have hn1 := HM1.out.rows
  have HR1 := vl (fun r (hr : r ∈ T1) => HM1.out.row hr)
  have hnn1 : (0 : Int) ≤ 1048576 - (T0.n : Int) - (T0.m : Int) - (szT T1 : Int) := by omega
  clear hbig1
  go_wp2_with fail
  refine (szTrain_yes up1 A1 c1 T1 _ _ (by omega) HA1_1.out hsz1).mono ?_
  rintro en w2 ⟨rfl, hb⟩
  clear l0_0 l0_1 l0_2 l0_3 l1_0 l1_1
  have HL0_2 := vl (HL0_1.out.below hb)
  have HL1_2 := vl (HL1_1.out.below hb)
  clear HL0_1 HL1_1
  have HB2 := vl (HB1.out.trans (hb.mono HB1.out.size))
  clear hb
  obtain ⟨l0_0, l0_1, l0_2, l0_3⟩ := HL0_2.out.at
  obtain ⟨l1_0, l1_1⟩ := HL1_2.out
  clear hnn0 hnn1
  go_wp2
  clear l0_0 l0_1 l0_2 l0_3 l1_0 l1_1
  generalize hg1 : w.heap.size + 1 = g1 at *
  obtain ⟨l0_0, l0_1, l0_2, l0_3⟩ := HL0_2.out.at
  obtain ⟨l1_0, l1_1⟩ := HL1_2.out
  go_region_held3 (fun w' => w'.cell? ⟨w.heap.size, 0, none⟩ = some (.int .i64 T0.b) ∧ w'.cell? ⟨w.heap.size, 1, none⟩ = some (.int .i64 T0.p) ∧ w'.cell? ⟨w.heap.size, 2, none⟩ = some (.slice A0 T0.n c0) ∧ w'.cell? ⟨w.heap.size, 3, none⟩ = some (.slice D0 T0.m d0) ∧ w'.cell? ⟨g1, 0, none⟩ = some (.bool up1) ∧ w'.cell? ⟨g1, 1, none⟩ = some (.slice A1 T1.length c1) ∧ Below w2.heap.size w2 w')
    (first | exact ⟨l0_0, l0_1, l0_2, l0_3, l1_0, l1_1, Below.refl _ _⟩ | exact ⟨l0_0, l0_1, l0_2, l0_3, l1_0, l1_1, (Below.refl _ _).drew⟩ | assumption)
    (first
      | (go_at_call 34; obtain ⟨q0, q1, q2, q3, q4, q5, hb7⟩ : _ ∧ _ ∧ _ ∧ _ ∧ _ ∧ _ ∧ Below w2.heap.size w2 _ := by assumption
         refine (toTariff T0 A0 D0 c0 d0 _ hn0 hm0 (HSP0.out.below (HB2.out.trans (hb7.mono HB2.out.size))) (HSI0.out.below (HB2.out.trans (hb7.mono HB2.out.size)))).mono ?_
         rintro en w' ⟨⟨As0, cs0, Ds0, ds0, gs0, hs0, rfl, hos0⟩, hb'⟩
         have HOs0 := vl hos0
         have S0 := And.intro ((hb'.cell (cell_lt' q0)).trans q0) (And.intro ((hb'.cell (cell_lt' q1)).trans q1) (And.intro ((hb'.cell (cell_lt' q2)).trans q2) (And.intro ((hb'.cell (cell_lt' q3)).trans q3) (And.intro ((hb'.cell (cell_lt' q4)).trans q4) (And.intro ((hb'.cell (cell_lt' q5)).trans q5) (hb7.trans (hb'.mono hb7.size)))))))
         clear hb' hos0)
      | (go_at_call 16; obtain ⟨q0, q1, q2, q3, q4, q5, hb7⟩ : _ ∧ _ ∧ _ ∧ _ ∧ _ ∧ _ ∧ Below w2.heap.size w2 _ := by assumption
         refine (toTrain up1 A1 c1 T1 _ hn1 HR1.out (HU1.out.src.below (HB2.out.trans (hb7.mono HB2.out.size)))).mono ?_
         rintro en w' ⟨⟨As1, cs1, gs1, Gs1, rfl, _, hos1⟩, hb'⟩
         have HOs0' := vl (HOs0.out.below hb')
         have HOs1 := vl hos1.trn
         have S1 := And.intro ((hb'.cell (cell_lt' q0)).trans q0) (And.intro ((hb'.cell (cell_lt' q1)).trans q1) (And.intro ((hb'.cell (cell_lt' q2)).trans q2) (And.intro ((hb'.cell (cell_lt' q3)).trans q3) (And.intro ((hb'.cell (cell_lt' q4)).trans q4) (And.intro ((hb'.cell (cell_lt' q5)).trans q5) (hb7.trans (hb'.mono hb7.size)))))))
         clear hb' hos1)
      | (go_at_call 37; obtain ⟨q0, q1, q2, q3, q4, q5, hb7⟩ : _ ∧ _ ∧ _ ∧ _ ∧ _ ∧ _ ∧ Below w2.heap.size w2 _ := by assumption
         refine (toll_spec _ _ _ _ _ _ _ _ _ _ hn0 hm0 HOs0'.out.1.srcG HOs0'.out.2.2.1.srcG HM1.out HOs1.out).mono ?_
         rintro en w' ⟨rfl, hb'⟩
         have S2 := And.intro ((hb'.cell (cell_lt' q0)).trans q0) (And.intro ((hb'.cell (cell_lt' q1)).trans q1) (And.intro ((hb'.cell (cell_lt' q2)).trans q2) (And.intro ((hb'.cell (cell_lt' q3)).trans q3) (And.intro ((hb'.cell (cell_lt' q4)).trans q4) (And.intro ((hb'.cell (cell_lt' q5)).trans q5) (hb7.trans (hb'.mono hb7.size)))))))
         clear hb'))
  obtain ⟨q0, q1, q2, q3, q4, q5, hb9⟩ : _ ∧ _ ∧ _ ∧ _ ∧ _ ∧ _ ∧ Below w2.heap.size w2 _ := by assumption
  obtain ⟨w3, hw9⟩ : ∃ u, u = w' := ⟨_, rfl⟩
  rw [← hw9] at q0 q1 q2 q3 q4 q5 hb9 ⊢
  clear hw9 q0 q1 q2 q3 q4 q5 S0 S1 S2 HOs0 HOs0' HOs1
  clear l0_0 l0_1 l0_2 l0_3 l1_0 l1_1
  have HL0_3 := vl (HL0_2.out.below hb9)
  have HL1_3 := vl (HL1_2.out.below hb9)
  clear HL0_2 HL1_2
  have HB3 := vl (HB2.out.trans (hb9.mono HB2.out.size))
  clear hb9
  obtain ⟨l0_0, l0_1, l0_2, l0_3⟩ := HL0_3.out.at
  go_wp2_with fail
  refine (toTariff T0 A0 D0 c0 d0 _ hn0 hm0 (HSP0.out.below HB3.out) (HSI0.out.below HB3.out)).mono ?_
  rintro en w4 ⟨⟨Ax0, cx0, Dx0, dx0, gx0, hx0, rfl, hox0⟩, hb⟩
  have hba := hb.trans (((Below.refl w4.heap.size w4).alloc (Nat.le_refl _) (.cells #[.int .i64 T0.b, .int .i64 T0.p, .slice Ax0 T0.n cx0, .slice Dx0 T0.m dx0] 62)).mono hb.size)
  have HX0_4 := vl (Box4.new w4 (.int .i64 T0.b) (.int .i64 T0.p) (.slice Ax0 T0.n cx0) (.slice Dx0 T0.m dx0) 62)
  have HO0_4 := vl ((hox0).below ((Below.refl w4.heap.size w4).alloc (Nat.le_refl _) (.cells #[.int .i64 T0.b, .int .i64 T0.p, .slice Ax0 T0.n cx0, .slice Dx0 T0.m dx0] 62)))
  clear l0_0 l0_1 l0_2 l0_3
  have HL0_4 := vl (HL0_3.out.below hba)
  have HL1_4 := vl (HL1_3.out.below hba)
  clear HL0_3 HL1_3
  have HB4 := vl (HB3.out.trans (hba.mono HB3.out.size))
  clear hb hba hox0
  obtain ⟨l1_0, l1_1⟩ := HL1_4.out
  go_wp2_with fail
  refine (toTrain up1 A1 c1 T1 _ hn1 HR1.out (HU1.out.src.below HB4.out)).mono ?_
  rintro en w5 ⟨⟨Ax1, cx1, gx1, Gx1, rfl, _, hox1⟩, hb⟩
  have hba := hb.trans (((Below.refl w5.heap.size w5).alloc (Nat.le_refl _) (.cells #[.bool up1, .slice Ax1 T1.length cx1] 29)).mono hb.size)
  have HX1_5 := vl (TBox.new w5 up1 Ax1 T1.length cx1 29)
  have HO1_5 := vl ((hox1.trn).below ((Below.refl w5.heap.size w5).alloc (Nat.le_refl _) (.cells #[.bool up1, .slice Ax1 T1.length cx1] 29)))
  clear l1_0 l1_1
  have HL0_5 := vl (HL0_4.out.below hba)
  have HL1_5 := vl (HL1_4.out.below hba)
  have HX0_5 := vl (HX0_4.out.below hba)
  have HO0_5 := vl (HO0_4.out.below hba)
  clear HL0_4 HL1_4 HX0_4 HO0_4
  have HB5 := vl (HB4.out.trans (hba.mono HB4.out.size))
  clear hb hba hox1
  obtain ⟨x0_0, x0_1, x0_2, x0_3⟩ := HX0_5.out.at
  obtain ⟨x1_0, x1_1⟩ := HX1_5.out
  go_wp2_with fail
  refine (toll_impl T0 Ax0 Dx0 cx0 dx0 up1 Ax1 cx1 T1 _ hn0 hm0 HO0_5.out.1.srcG HO0_5.out.2.2.1.srcG HM1.out HO1_5.out).mono ?_
  rintro en w6 ⟨rfl, hb⟩
  clear x0_0 x0_1 x0_2 x0_3 x1_0 x1_1
  have HL0_6 := vl (HL0_5.out.below hb)
  have HL1_6 := vl (HL1_5.out.below hb)
  have HX0_6 := vl (HX0_5.out.below hb)
  have HO0_6 := vl (HO0_5.out.below hb)
  have HX1_6 := vl (HX1_5.out.below hb)
  have HO1_6 := vl (HO1_5.out.below hb)
  clear HL0_5 HL1_5 HX0_5 HO0_5 HX1_5 HO1_5
  have HB6 := vl (HB5.out.trans (hb.mono HB5.out.size))
  clear hb
  obtain ⟨l0_0, l0_1, l0_2, l0_3⟩ := HL0_6.out.at
  obtain ⟨x0_0, x0_1, x0_2, x0_3⟩ := HX0_6.out.at
  go_wp2
  go_region_held3 (fun w' => w'.cell? ⟨w.heap.size, 0, none⟩ = some (.int .i64 T0.b) ∧ w'.cell? ⟨w.heap.size, 1, none⟩ = some (.int .i64 T0.p) ∧ w'.cell? ⟨w.heap.size, 2, none⟩ = some (.slice A0 T0.n c0) ∧ w'.cell? ⟨w.heap.size, 3, none⟩ = some (.slice D0 T0.m d0) ∧ w'.cell? ⟨w4.heap.size, 0, none⟩ = some (.int .i64 T0.b) ∧ w'.cell? ⟨w4.heap.size, 1, none⟩ = some (.int .i64 T0.p) ∧ w'.cell? ⟨w4.heap.size, 2, none⟩ = some (.slice Ax0 T0.n cx0) ∧ w'.cell? ⟨w4.heap.size, 3, none⟩ = some (.slice Dx0 T0.m dx0) ∧ Below w6.heap.size w6 w')
    (first | exact ⟨l0_0, l0_1, l0_2, l0_3, x0_0, x0_1, x0_2, x0_3, Below.refl _ _⟩ | exact ⟨l0_0, l0_1, l0_2, l0_3, x0_0, x0_1, x0_2, x0_3, (Below.refl _ _).drew⟩ | assumption)
    (first
      | (go_at_call 34; obtain ⟨q0, q1, q2, q3, q4, q5, q6, q7, hb7⟩ : _ ∧ _ ∧ _ ∧ _ ∧ _ ∧ _ ∧ _ ∧ _ ∧ Below w6.heap.size w6 _ := by assumption
         refine (toTariff T0 A0 D0 c0 d0 _ hn0 hm0 (HSP0.out.below (HB6.out.trans (hb7.mono HB6.out.size))) (HSI0.out.below (HB6.out.trans (hb7.mono HB6.out.size)))).mono ?_
         rintro en w' ⟨⟨Ae0, ce0, De0, de0, ge0, he0, rfl, hoe0⟩, hb'⟩
         have HOE := vl hoe0
         have S0 := And.intro ((hb'.cell (cell_lt' q0)).trans q0) (And.intro ((hb'.cell (cell_lt' q1)).trans q1) (And.intro ((hb'.cell (cell_lt' q2)).trans q2) (And.intro ((hb'.cell (cell_lt' q3)).trans q3) (And.intro ((hb'.cell (cell_lt' q4)).trans q4) (And.intro ((hb'.cell (cell_lt' q5)).trans q5) (And.intro ((hb'.cell (cell_lt' q6)).trans q6) (And.intro ((hb'.cell (cell_lt' q7)).trans q7) (hb7.trans (hb'.mono hb7.size)))))))))
         clear hb' hoe0)
      | (go_at_call 36; obtain ⟨q0, q1, q2, q3, q4, q5, q6, q7, hb7⟩ : _ ∧ _ ∧ _ ∧ _ ∧ _ ∧ _ ∧ _ ∧ _ ∧ Below w6.heap.size w6 _ := by assumption
         refine (eqTariff T0 _ _ _ _ _ _ _ _ _ hn0 hm0 (HO0_6.out.below hb7) HOE.out).mono ?_
         rintro en w' ⟨rfl, hb'⟩
         have S1 := And.intro ((hb'.cell (cell_lt' q0)).trans q0) (And.intro ((hb'.cell (cell_lt' q1)).trans q1) (And.intro ((hb'.cell (cell_lt' q2)).trans q2) (And.intro ((hb'.cell (cell_lt' q3)).trans q3) (And.intro ((hb'.cell (cell_lt' q4)).trans q4) (And.intro ((hb'.cell (cell_lt' q5)).trans q5) (And.intro ((hb'.cell (cell_lt' q6)).trans q6) (And.intro ((hb'.cell (cell_lt' q7)).trans q7) (hb7.trans (hb'.mono hb7.size)))))))))
         clear hb'))
  obtain ⟨q0, q1, q2, q3, q4, q5, q6, q7, hb9⟩ : _ ∧ _ ∧ _ ∧ _ ∧ _ ∧ _ ∧ _ ∧ _ ∧ Below w6.heap.size w6 _ := by assumption
  obtain ⟨w7, hw9⟩ : ∃ u, u = w' := ⟨_, rfl⟩
  rw [← hw9] at q0 q1 q2 q3 q4 q5 q6 q7 hb9 ⊢
  clear hw9 q0 q1 q2 q3 q4 q5 q6 q7 S0 S1 HOE
  clear l0_0 l0_1 l0_2 l0_3 x0_0 x0_1 x0_2 x0_3
  have HL0_7 := vl (HL0_6.out.below hb9)
  have HL1_7 := vl (HL1_6.out.below hb9)
  have HX0_7 := vl (HX0_6.out.below hb9)
  have HO0_7 := vl (HO0_6.out.below hb9)
  have HX1_7 := vl (HX1_6.out.below hb9)
  have HO1_7 := vl (HO1_6.out.below hb9)
  clear HL0_6 HL1_6 HX0_6 HO0_6 HX1_6 HO1_6
  have HB7 := vl (HB6.out.trans (hb9.mono HB6.out.size))
  clear hb9
  obtain ⟨l1_0, l1_1⟩ := HL1_7.out
  obtain ⟨x1_0, x1_1⟩ := HX1_7.out
  go_wp2
  go_region_held3 (fun w' => w'.cell? ⟨g1, 0, none⟩ = some (.bool up1) ∧ w'.cell? ⟨g1, 1, none⟩ = some (.slice A1 T1.length c1) ∧ w'.cell? ⟨w5.heap.size, 0, none⟩ = some (.bool up1) ∧ w'.cell? ⟨w5.heap.size, 1, none⟩ = some (.slice Ax1 T1.length cx1) ∧ Below w7.heap.size w7 w')
    (first | exact ⟨l1_0, l1_1, x1_0, x1_1, Below.refl _ _⟩ | exact ⟨l1_0, l1_1, x1_0, x1_1, (Below.refl _ _).drew⟩ | assumption)
    (first
      | (go_at_call 16; obtain ⟨q0, q1, q2, q3, hb7⟩ : _ ∧ _ ∧ _ ∧ _ ∧ Below w7.heap.size w7 _ := by assumption
         refine (toTrain up1 A1 c1 T1 _ hn1 HR1.out (HU1.out.src.below (HB7.out.trans (hb7.mono HB7.out.size)))).mono ?_
         rintro en w' ⟨⟨Ae1, ce1, ge1, Ge1, rfl, _, hoe1⟩, hb'⟩
         have HOE := vl hoe1.trn
         have S0 := And.intro ((hb'.cell (cell_lt' q0)).trans q0) (And.intro ((hb'.cell (cell_lt' q1)).trans q1) (And.intro ((hb'.cell (cell_lt' q2)).trans q2) (And.intro ((hb'.cell (cell_lt' q3)).trans q3) (hb7.trans (hb'.mono hb7.size)))))
         clear hb' hoe1)
      | (go_at_call 18; obtain ⟨q0, q1, q2, q3, hb7⟩ : _ ∧ _ ∧ _ ∧ _ ∧ Below w7.heap.size w7 _ := by assumption
         refine (eqTrain up1 _ _ _ _ T1 _ hn1 HR1.out (HO1_7.out.below hb7) HOE.out).mono ?_
         rintro en w' ⟨rfl, hb'⟩
         have S1 := And.intro ((hb'.cell (cell_lt' q0)).trans q0) (And.intro ((hb'.cell (cell_lt' q1)).trans q1) (And.intro ((hb'.cell (cell_lt' q2)).trans q2) (And.intro ((hb'.cell (cell_lt' q3)).trans q3) (hb7.trans (hb'.mono hb7.size)))))
         clear hb'))
  all_goals
    obtain ⟨q0, q1, q2, q3, hb9⟩ : _ ∧ _ ∧ _ ∧ _ ∧ Below w7.heap.size w7 _ := by assumption
    go_wp2
    go_ret
    exact ⟨rfl, HB7.out.trans (hb9.mono HB7.out.size)⟩

theorem parOk : Try.f8.params.toList.all (fun t => Try.prog.readableRec t && decide (t < Try.prog.types.size)) = true := by kernel_rfl
set_option maxRecDepth 100000 in
theorem lifted (os : Os) (started : os.Started) (H : Type) (enc : TypeId × Value → H) :
    ReturnsInHanded {} Try.checked os 8 .any (Rows.fnExactTollOfSpec.pre6 enc Try.prog Try.f8 Rows.fnExactTollOfRow.domain false) (Rows.fnExactTollOfSpec.post enc Try.prog Try.f8 false true false false) := by
  refine law_lifted (C := Try.checked) own started (by kernel_rfl) Try.func8 laid (fun t ht => by
      have h := List.all_eq_true.1 parOk t ht
      rw [Bool.and_eq_true] at h
      exact ⟨h.1, of_decide_eq_true h.2⟩) rfl Try.underlying4 rfl
    (fun xs hx => by
      rw [show Try.f8.params.toList.length = 2 from by rw [Try.params8]; rfl] at hx
      match xs, hx with
      | [d0, d1], _ => rfl)
    (ChangeSpec.witness6 (enc := enc) (C := Try.checked) false ⟨#[], #[.agg #[.int .i64 0, .int .i64 0, .slice none 0 0, .slice none 0 0], .agg #[.bool false, .slice none 0 0]], []⟩ 8 (by kernel_rfl) (by kernel_rfl) (by kernel_rfl) (by kernel_rfl)) ?_
  intro W base args ds p hval0 hA0 _
  have hval : ∀ (j : Nat) t v, Try.f8.params[j]? = some t → args[j]? = some v → Value.okWide Try.prog W .any base t v := hval0
  have hA : DataW.TrodAll enc Try.prog W 0 (fun _ => true) true Try.f8.params.toList args.toList ds p := hA0
  clear hA0 hval0
  rw [Try.params8] at hA hval
  obtain ⟨v0, vs0, d0, ds0, p0, q0, hargs, rfl, rfl, h0, r0⟩ := trodAll_cons hA
  obtain ⟨v1, vs1, d1, ds1, p1, q1, rfl, rfl, rfl, h1, r1⟩ := trodAll_cons r0
  obtain ⟨rfl, rfl, rfl⟩ := trodAll_nil r1
  obtain rfl : args = #[v0, v1] := by cases args; simp_all
  obtain ⟨T0, A0, D0, c0, d0, rfl, x0⟩ := open_tariff (hval 0 59 _ rfl rfl) h0
  obtain ⟨up1, A1, c1, T1, rfl, x1⟩ := open_train (hval 1 24 _ rfl rfl) h1
  exact walk T0 A0 D0 c0 d0 up1 A1 c1 T1 W x0 x1

/-- The statement. -/
theorem proved : Rows.FnExactTollOfSaid :=
  OpenClaim.holds_of_wide 8 Try.f8 rfl rfl rfl rfl rfl rfl rfl ⟨rfl, rfl, rfl, rfl, rfl⟩ rfl rfl rfl rfl rfl (by kernel_rfl) Try.func8 (by show joinedFacts Try.prog _ _ _ _ = true; unfold joinedFacts; rw [Io.mayEnter, Io.liftsFinal, Io.make]; kernel_rfl)
    (of_decide_eq_true (by kernel_rfl)) (by unfold Func.isWrapper; first | (rw [if_pos (by decide +kernel)]; kernel_rfl) | (rw [if_neg (by decide +kernel)]; exact ⟨rfl, rfl⟩))
    (fun os started H enc _ => lifted os started H enc)
#print axioms proved
end Go.Proofs.Ytngmpimoebggdaa.fnExactTollOf
