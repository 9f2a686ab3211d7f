/-
  For every input the Go function 'laws.FnExactTimeTo' returns true, and each argument reads afterwards as it read before. No further condition.
-/
import Derived.Test.YtngmpimoebggdaaSa5
import Derived.Test.YtngmpimoebggdaaSaO
import Derived.Test.YtngmpimoebggdaaOpenR
import Derived.Test.YtngmpimoebggdaaLift
import Derived.Test.YtngmpimoebggdaaIo
import Derived.Test.YtngmpimoebggdaaOpen
import Derived.ChangeMaps5
namespace Go.Proofs.Ytngmpimoebggdaa.fnExactTimeTo
open Go.Proofs.Ytngmpimoebggdaa.C1 Go.Proofs.Ytngmpimoebggdaa.Lift Go.Proofs.Ytngmpimoebggdaa.Opened
open Go.ChangeShapes Go.WideShapes Go.ChangeAt Go.RowKit Go.ChangeMaps
set_option linter.unusedVariables false

set_option linter.unusedSimpArgs false
set_option maxRecDepth 100000 in
set_option maxHeartbeats 8000000 in
theorem walk (C0 : Mv) (A0 : Option Addr) (c0 : Nat) (Y1 : Wy) (r2 : Rc) (B2 : Option Addr) (D2 : Option Addr) (b2 : Nat) (d2 : Nat) (w : World) (hu0 : ArgT w A0 C0.T) (hu2 : ArgR w r2 B2 D2) :
    Calls Try.prog 6 #[.agg #[.bool C0.up, .slice A0 C0.T.length c0, .int .i64 C0.p], .agg #[.int .i64 Y1.l, .int .i64 Y1.b], .agg #[.slice B2 r2.n b2, .int .i64 r2.v, .slice D2 r2.m d2]] w fun e w' => e = .returned (.bool true) ∧ Below w.heap.size w w' := by
  have hB := ((((Below.refl w.heap.size w).alloc (Nat.le_refl _) (.cells #[.bool C0.up, .slice A0 C0.T.length c0, .int .i64 C0.p] 34)).alloc (by simp) (.cells #[.int .i64 Y1.l, .int .i64 Y1.b] 36)).alloc (by simp; omega) (.cells #[.slice B2 r2.n b2, .int .i64 r2.v, .slice D2 r2.m d2] 49))
  have hl0 := (((MBox.new w C0 A0 c0 34).below ((Below.refl _ _).alloc (Nat.le_refl _) (.cells #[.int .i64 Y1.l, .int .i64 Y1.b] 36))).below ((Below.refl _ _).alloc (Nat.le_refl _) (.cells #[.slice B2 r2.n b2, .int .i64 r2.v, .slice D2 r2.m d2] 49)))
  have hl1 : WBox (((w.alloc (.cells #[.bool C0.up, .slice A0 C0.T.length c0, .int .i64 C0.p] 34)).alloc (.cells #[.int .i64 Y1.l, .int .i64 Y1.b] 36)).alloc (.cells #[.slice B2 r2.n b2, .int .i64 r2.v, .slice D2 r2.m d2] 49)) (w.heap.size + 1) Y1 36 := by have h := ((WBox.new (w.alloc (.cells #[.bool C0.up, .slice A0 C0.T.length c0, .int .i64 C0.p] 34)) Y1 36).below ((Below.refl _ _).alloc (Nat.le_refl _) (.cells #[.slice B2 r2.n b2, .int .i64 r2.v, .slice D2 r2.m d2] 49))); simpa using h
  have hl2 : Box (((w.alloc (.cells #[.bool C0.up, .slice A0 C0.T.length c0, .int .i64 C0.p] 34)).alloc (.cells #[.int .i64 Y1.l, .int .i64 Y1.b] 36)).alloc (.cells #[.slice B2 r2.n b2, .int .i64 r2.v, .slice D2 r2.m d2] 49)) (w.heap.size + 1 + 1) (.slice B2 r2.n b2) (.int .i64 r2.v) (.slice D2 r2.m d2) 49 := by have h := (Box.new ((w.alloc (.cells #[.bool C0.up, .slice A0 C0.T.length c0, .int .i64 C0.p] 34)).alloc (.cells #[.int .i64 Y1.l, .int .i64 Y1.b] 36)) (.slice B2 r2.n b2) (.int .i64 r2.v) (.slice D2 r2.m d2) 49); simpa using h
  have HB0 := vl hB
  have HL0_0 := vl hl0
  have HL1_0 := vl hl1
  have HL2_0 := vl hl2
  have HU0 := vl hu0
  have HA0_0 := vl (hu0.below hB)
  clear hu0
  obtain ⟨n1_2, n2_2, _, _, hsp2, hsi2⟩ := hu2
  have HSP2 := vl hsp2
  have HSI2 := vl hsi2
  clear hsp2 hsi2
  generalize hW : (((w.alloc (.cells #[.bool C0.up, .slice A0 C0.T.length c0, .int .i64 C0.p] 34)).alloc (.cells #[.int .i64 Y1.l, .int .i64 Y1.b] 36)).alloc (.cells #[.slice B2 r2.n b2, .int .i64 r2.v, .slice D2 r2.m d2] 49)) = W at HB0 HL0_0 HL1_0 HL2_0 HA0_0
  clear hB hl0 hl1 hl2
  obtain ⟨l0_0, l0_1, l0_2⟩ := HL0_0.out.at
  obtain ⟨l1_0, l1_1⟩ := HL1_0.out.at
  obtain ⟨l2_0, l2_1, l2_2⟩ := HL2_0.out.at
  by_cases hbig0 : (1048576 : Int) < (szT C0.T : Int)
  · go_enter Try.func6, Try.ntmps6
    go_wp2_with fail
    clear hW
    refine (szMover_no C0 A0 c0 _ _ (by omega) (by omega) HA0_0.out hbig0).mono ?_
    rintro en w1 ⟨rfl, hb⟩
    have HBe := vl (HB0.out.trans (hb.mono HB0.out.size))
    clear hb
    go_wp2
    go_ret
    exact ⟨rfl, HBe.out⟩
  have hsz0 : (szT C0.T : Int) ≤ 1048576 := by omega
  have HM0 := vl (mod_of (T := C0.T) (by omega))
  have hn0 := HM0.out.rows
  have HR0 := vl (fun r (hr : r ∈ C0.T) => HM0.out.row hr)
  have hnn0 : (0 : Int) ≤ 1048576 - (szT C0.T : Int) := by omega
  clear hbig0
  go_enter Try.func6, Try.ntmps6
  go_wp2_with fail
  clear hW
  refine (szMover_yes C0 A0 c0 _ _ (by omega) HA0_0.out hsz0).mono ?_
  rintro en w1 ⟨rfl, hb⟩
  clear l0_0 l0_1 l0_2 l1_0 l1_1 l2_0 l2_1 l2_2
  have HL0_1 := vl (HL0_0.out.below hb)
  have HL1_1 := vl (HL1_0.out.below hb)
  have HL2_1 := vl (HL2_0.out.below hb)
  clear HL0_0 HL1_0 HL2_0
  have HB1 := vl (HB0.out.trans (hb.mono HB0.out.size))
  clear hb
  obtain ⟨l0_0, l0_1, l0_2⟩ := HL0_1.out.at
  obtain ⟨l1_0, l1_1⟩ := HL1_1.out.at
  obtain ⟨l2_0, l2_1, l2_2⟩ := HL2_1.out.at
  by_cases hbig2 : 1048576 - (szT C0.T : Int) < (r2.n : Int) + r2.m
  · go_wp2_with fail
    refine (szReach_no _ _ _ _ _ _ _ _ _ (by omega) (by omega) n1_2 n2_2 hbig2).mono ?_
    rintro en w2 ⟨rfl, hb⟩
    have HBe := vl (HB1.out.trans (hb.mono HB1.out.size))
    clear hb
    go_wp2
    go_ret
    exact ⟨rfl, HBe.out⟩
  have hn2 : r2.n ≤ 1048576 := by omega
  have hm2 : r2.m ≤ 1048576 := by omega
  have hsz2 : (r2.n : Int) + r2.m ≤ 1048576 - (szT C0.T : Int) := by omega
  have hnn2 : (0 : Int) ≤ 1048576 - (szT C0.T : Int) - (r2.n : Int) - (r2.m : Int) := by omega
  clear hbig2
  go_wp2_with fail
  refine (szReach_yes _ _ _ _ _ _ _ _ _ (by omega) (by omega) hsz2).mono ?_
  rintro en w2 ⟨rfl, hb⟩
  clear l0_0 l0_1 l0_2 l1_0 l1_1 l2_0 l2_1 l2_2
  have HL0_2 := vl (HL0_1.out.below hb)
  have HL1_2 := vl (HL1_1.out.below hb)
  have HL2_2 := vl (HL2_1.out.below hb)
  clear HL0_1 HL1_1 HL2_1
  have HB2 := vl (HB1.out.trans (hb.mono HB1.out.size))
  clear hb
  obtain ⟨l0_0, l0_1, l0_2⟩ := HL0_2.out.at
  obtain ⟨l1_0, l1_1⟩ := HL1_2.out.at
  obtain ⟨l2_0, l2_1, l2_2⟩ := HL2_2.out.at
  clear hnn0 hnn2
  go_wp2
  clear l0_0 l0_1 l0_2 l1_0 l1_1 l2_0 l2_1 l2_2
  generalize hg2 : w.heap.size + 1 + 1 = g2 at *
  generalize hg1 : w.heap.size + 1 = g1 at *
  obtain ⟨l0_0, l0_1, l0_2⟩ := HL0_2.out.at
  obtain ⟨l1_0, l1_1⟩ := HL1_2.out.at
  obtain ⟨l2_0, l2_1, l2_2⟩ := HL2_2.out.at
  go_region_held3 (fun w' => w'.cell? ⟨w.heap.size, 0, none⟩ = some (.bool C0.up) ∧ w'.cell? ⟨w.heap.size, 1, none⟩ = some (.slice A0 C0.T.length c0) ∧ w'.cell? ⟨w.heap.size, 2, none⟩ = some (.int .i64 C0.p) ∧ w'.cell? ⟨g1, 0, none⟩ = some (.int .i64 Y1.l) ∧ w'.cell? ⟨g1, 1, none⟩ = some (.int .i64 Y1.b) ∧ w'.cell? ⟨g2, 0, none⟩ = some (.slice B2 r2.n b2) ∧ w'.cell? ⟨g2, 1, none⟩ = some (.int .i64 r2.v) ∧ w'.cell? ⟨g2, 2, none⟩ = some (.slice D2 r2.m d2) ∧ Below w2.heap.size w2 w')
    (first | exact ⟨l0_0, l0_1, l0_2, l1_0, l1_1, l2_0, l2_1, l2_2, Below.refl _ _⟩ | exact ⟨l0_0, l0_1, l0_2, l1_0, l1_1, l2_0, l2_1, l2_2, (Below.refl _ _).drew⟩ | assumption)
    (first
      | (go_at_call 21; obtain ⟨q0, q1, q2, q3, q4, q5, q6, q7, hb7⟩ : _ ∧ _ ∧ _ ∧ _ ∧ _ ∧ _ ∧ _ ∧ _ ∧ Below w2.heap.size w2 _ := by assumption
         refine (toMover C0 A0 c0 _ hn0 HR0.out (HU0.out.src.below (HB2.out.trans (hb7.mono HB2.out.size)))).mono ?_
         rintro en w' ⟨⟨As0, cs0, gs0, Gs0, rfl, _, hos0⟩, hb'⟩
         have HOs0 := vl hos0.trn
         have S0 := And.intro ((hb'.cell (cell_lt' q0)).trans q0) (And.intro ((hb'.cell (cell_lt' q1)).trans q1) (And.intro ((hb'.cell (cell_lt' q2)).trans q2) (And.intro ((hb'.cell (cell_lt' q3)).trans q3) (And.intro ((hb'.cell (cell_lt' q4)).trans q4) (And.intro ((hb'.cell (cell_lt' q5)).trans q5) (And.intro ((hb'.cell (cell_lt' q6)).trans q6) (And.intro ((hb'.cell (cell_lt' q7)).trans q7) (hb7.trans (hb'.mono hb7.size)))))))))
         clear hb' hos0)
      | (go_at_call 22; obtain ⟨q0, q1, q2, q3, q4, q5, q6, q7, hb7⟩ : _ ∧ _ ∧ _ ∧ _ ∧ _ ∧ _ ∧ _ ∧ _ ∧ Below w2.heap.size w2 _ := by assumption
         refine (toWay Y1 _).mono ?_
         rintro en w' ⟨rfl, hb'⟩
         have HOs0' := vl (HOs0.out.below hb')
         have S1 := And.intro ((hb'.cell (cell_lt' q0)).trans q0) (And.intro ((hb'.cell (cell_lt' q1)).trans q1) (And.intro ((hb'.cell (cell_lt' q2)).trans q2) (And.intro ((hb'.cell (cell_lt' q3)).trans q3) (And.intro ((hb'.cell (cell_lt' q4)).trans q4) (And.intro ((hb'.cell (cell_lt' q5)).trans q5) (And.intro ((hb'.cell (cell_lt' q6)).trans q6) (And.intro ((hb'.cell (cell_lt' q7)).trans q7) (hb7.trans (hb'.mono hb7.size)))))))))
         clear hb')
      | (go_at_call 29; obtain ⟨q0, q1, q2, q3, q4, q5, q6, q7, hb7⟩ : _ ∧ _ ∧ _ ∧ _ ∧ _ ∧ _ ∧ _ ∧ _ ∧ Below w2.heap.size w2 _ := by assumption
         refine (toReach r2 B2 D2 b2 d2 _ hn2 hm2 (HSP2.out.below (HB2.out.trans (hb7.mono HB2.out.size))) (HSI2.out.below (HB2.out.trans (hb7.mono HB2.out.size)))).mono ?_
         rintro en w' ⟨⟨Bs2, bs2, Ds2, ds2, gs2, hs2, rfl, _, hos2⟩, hb'⟩
         have HOs0'' := vl (HOs0'.out.below hb')
         have HOs2 := vl hos2
         have S2 := And.intro ((hb'.cell (cell_lt' q0)).trans q0) (And.intro ((hb'.cell (cell_lt' q1)).trans q1) (And.intro ((hb'.cell (cell_lt' q2)).trans q2) (And.intro ((hb'.cell (cell_lt' q3)).trans q3) (And.intro ((hb'.cell (cell_lt' q4)).trans q4) (And.intro ((hb'.cell (cell_lt' q5)).trans q5) (And.intro ((hb'.cell (cell_lt' q6)).trans q6) (And.intro ((hb'.cell (cell_lt' q7)).trans q7) (hb7.trans (hb'.mono hb7.size)))))))))
         clear hb' hos2)
      | (go_at_call 28; obtain ⟨q0, q1, q2, q3, q4, q5, q6, q7, hb7⟩ : _ ∧ _ ∧ _ ∧ _ ∧ _ ∧ _ ∧ _ ∧ _ ∧ Below w2.heap.size w2 _ := by assumption
         refine (timeto_spec _ _ _ _ _ _ _ _ _ _ HM0.out HOs0''.out hn2 hm2 HOs2.out.pts HOs2.out.ints).mono ?_
         rintro en w' ⟨rfl, hb'⟩
         have S3 := And.intro ((hb'.cell (cell_lt' q0)).trans q0) (And.intro ((hb'.cell (cell_lt' q1)).trans q1) (And.intro ((hb'.cell (cell_lt' q2)).trans q2) (And.intro ((hb'.cell (cell_lt' q3)).trans q3) (And.intro ((hb'.cell (cell_lt' q4)).trans q4) (And.intro ((hb'.cell (cell_lt' q5)).trans q5) (And.intro ((hb'.cell (cell_lt' q6)).trans q6) (And.intro ((hb'.cell (cell_lt' q7)).trans q7) (hb7.trans (hb'.mono hb7.size)))))))))
         clear hb'))
  obtain ⟨q0, q1, q2, q3, q4, q5, q6, q7, hb9⟩ : _ ∧ _ ∧ _ ∧ _ ∧ _ ∧ _ ∧ _ ∧ _ ∧ Below w2.heap.size w2 _ := by assumption
  obtain ⟨w3, hw9⟩ : ∃ u, u = w' := ⟨_, rfl⟩
  rw [← hw9] at q0 q1 q2 q3 q4 q5 q6 q7 hb9 ⊢
  clear hw9 q0 q1 q2 q3 q4 q5 q6 q7 S0 S1 S2 S3 HOs0 HOs0' HOs0'' HOs2
  clear l0_0 l0_1 l0_2 l1_0 l1_1 l2_0 l2_1 l2_2
  have HL0_3 := vl (HL0_2.out.below hb9)
  have HL1_3 := vl (HL1_2.out.below hb9)
  have HL2_3 := vl (HL2_2.out.below hb9)
  clear HL0_2 HL1_2 HL2_2
  have HB3 := vl (HB2.out.trans (hb9.mono HB2.out.size))
  clear hb9
  obtain ⟨l0_0, l0_1, l0_2⟩ := HL0_3.out.at
  go_wp2_with fail
  refine (toMover C0 A0 c0 _ hn0 HR0.out (HU0.out.src.below HB3.out)).mono ?_
  rintro en w4 ⟨⟨Ax0, cx0, gx0, Gx0, rfl, _, hox0⟩, hb⟩
  have hba := hb.trans (((Below.refl w4.heap.size w4).alloc (Nat.le_refl _) (.cells #[.bool C0.up, .slice Ax0 C0.T.length cx0, .int .i64 C0.p] 40)).mono hb.size)
  have HX0_4 := vl (MBox.new w4 C0 Ax0 cx0 40)
  have HO0_4 := vl ((hox0.trn).below ((Below.refl w4.heap.size w4).alloc (Nat.le_refl _) (.cells #[.bool C0.up, .slice Ax0 C0.T.length cx0, .int .i64 C0.p] 40)))
  clear l0_0 l0_1 l0_2
  have HL0_4 := vl (HL0_3.out.below hba)
  have HL1_4 := vl (HL1_3.out.below hba)
  have HL2_4 := vl (HL2_3.out.below hba)
  clear HL0_3 HL1_3 HL2_3
  have HB4 := vl (HB3.out.trans (hba.mono HB3.out.size))
  clear hb hba hox0
  obtain ⟨l2_0, l2_1, l2_2⟩ := HL2_4.out.at
  go_wp2_with fail
  refine (toReach r2 B2 D2 b2 d2 _ hn2 hm2 (HSP2.out.below HB4.out) (HSI2.out.below HB4.out)).mono ?_
  rintro en w5 ⟨⟨Bx2, bx2, Dx2, dx2, gx2, hx2, rfl, _, hox2⟩, hb⟩
  have hba := hb.trans (((Below.refl w5.heap.size w5).alloc (Nat.le_refl _) (.cells #[.slice Bx2 r2.n bx2, .int .i64 r2.v, .slice Dx2 r2.m dx2] 54)).mono hb.size)
  have HX2_5 := vl (Box.new w5 (.slice Bx2 r2.n bx2) (.int .i64 r2.v) (.slice Dx2 r2.m dx2) 54)
  have HO2_5 := vl ((hox2).below ((Below.refl w5.heap.size w5).alloc (Nat.le_refl _) (.cells #[.slice Bx2 r2.n bx2, .int .i64 r2.v, .slice Dx2 r2.m dx2] 54)))
  clear l2_0 l2_1 l2_2
  have HL0_5 := vl (HL0_4.out.below hba)
  have HL1_5 := vl (HL1_4.out.below hba)
  have HL2_5 := vl (HL2_4.out.below hba)
  have HX0_5 := vl (HX0_4.out.below hba)
  have HO0_5 := vl (HO0_4.out.below hba)
  clear HL0_4 HL1_4 HL2_4 HX0_4 HO0_4
  have HB5 := vl (HB4.out.trans (hba.mono HB4.out.size))
  clear hb hba hox2
  obtain ⟨u5, hu5⟩ : ∃ u, u = (w5.alloc (.cells #[.slice Bx2 r2.n bx2, .int .i64 r2.v, .slice Dx2 r2.m dx2] 54)) := ⟨_, rfl⟩
  rw [← hu5] at HL0_5 HL1_5 HL2_5 HX0_5 HO0_5 HX2_5 HO2_5 HB5
  obtain ⟨l1_0, l1_1⟩ := HL1_5.out.at
  obtain ⟨x0_0, x0_1, x0_2⟩ := HX0_5.out.at
  obtain ⟨x2_0, x2_1, x2_2⟩ := HX2_5.out.at
  go_wp2
  try rw [← hu5]
  clear hu5
  go_region_held3 (fun w' => w'.cell? ⟨g1, 0, none⟩ = some (.int .i64 Y1.l) ∧ w'.cell? ⟨g1, 1, none⟩ = some (.int .i64 Y1.b) ∧ w'.cell? ⟨w4.heap.size, 0, none⟩ = some (.bool C0.up) ∧ w'.cell? ⟨w4.heap.size, 1, none⟩ = some (.slice Ax0 C0.T.length cx0) ∧ w'.cell? ⟨w4.heap.size, 2, none⟩ = some (.int .i64 C0.p) ∧ w'.cell? ⟨w5.heap.size, 0, none⟩ = some (.slice Bx2 r2.n bx2) ∧ w'.cell? ⟨w5.heap.size, 1, none⟩ = some (.int .i64 r2.v) ∧ w'.cell? ⟨w5.heap.size, 2, none⟩ = some (.slice Dx2 r2.m dx2) ∧ Below u5.heap.size u5 w')
    (first | exact ⟨l1_0, l1_1, x0_0, x0_1, x0_2, x2_0, x2_1, x2_2, Below.refl _ _⟩ | exact ⟨l1_0, l1_1, x0_0, x0_1, x0_2, x2_0, x2_1, x2_2, (Below.refl _ _).drew⟩ | assumption)
    (first
      | (go_at_call 22; obtain ⟨q0, q1, q2, q3, q4, q5, q6, q7, hb7⟩ : _ ∧ _ ∧ _ ∧ _ ∧ _ ∧ _ ∧ _ ∧ _ ∧ Below u5.heap.size u5 _ := by assumption
         refine (toWay Y1 _).mono ?_
         rintro en w' ⟨rfl, hb'⟩
         have S0 := And.intro ((hb'.cell (cell_lt' q0)).trans q0) (And.intro ((hb'.cell (cell_lt' q1)).trans q1) (And.intro ((hb'.cell (cell_lt' q2)).trans q2) (And.intro ((hb'.cell (cell_lt' q3)).trans q3) (And.intro ((hb'.cell (cell_lt' q4)).trans q4) (And.intro ((hb'.cell (cell_lt' q5)).trans q5) (And.intro ((hb'.cell (cell_lt' q6)).trans q6) (And.intro ((hb'.cell (cell_lt' q7)).trans q7) (hb7.trans (hb'.mono hb7.size)))))))))
         clear hb')
      | (go_at_call 30; obtain ⟨q0, q1, q2, q3, q4, q5, q6, q7, hb7⟩ : _ ∧ _ ∧ _ ∧ _ ∧ _ ∧ _ ∧ _ ∧ _ ∧ Below u5.heap.size u5 _ := by assumption
         refine (timeto_impl C0 Ax0 cx0 Y1 r2 Bx2 Dx2 bx2 dx2 _ HM0.out (HO0_5.out.below hb7) hn2 hm2 (HO2_5.out.below hb7).pts (HO2_5.out.below hb7).ints).mono ?_
         rintro en w' ⟨rfl, hb'⟩
         have S1 := And.intro ((hb'.cell (cell_lt' q0)).trans q0) (And.intro ((hb'.cell (cell_lt' q1)).trans q1) (And.intro ((hb'.cell (cell_lt' q2)).trans q2) (And.intro ((hb'.cell (cell_lt' q3)).trans q3) (And.intro ((hb'.cell (cell_lt' q4)).trans q4) (And.intro ((hb'.cell (cell_lt' q5)).trans q5) (And.intro ((hb'.cell (cell_lt' q6)).trans q6) (And.intro ((hb'.cell (cell_lt' q7)).trans q7) (hb7.trans (hb'.mono hb7.size)))))))))
         clear hb'))
  obtain ⟨q0, q1, q2, q3, q4, q5, q6, q7, hb9⟩ : _ ∧ _ ∧ _ ∧ _ ∧ _ ∧ _ ∧ _ ∧ _ ∧ Below u5.heap.size u5 _ := by assumption
  obtain ⟨w6, hw9⟩ : ∃ u, u = w' := ⟨_, rfl⟩
  rw [← hw9] at q0 q1 q2 q3 q4 q5 q6 q7 hb9 ⊢
  clear hw9 q0 q1 q2 q3 q4 q5 q6 q7 S0 S1 
  clear l1_0 l1_1 x0_0 x0_1 x0_2 x2_0 x2_1 x2_2
  have HL0_6 := vl (HL0_5.out.below hb9)
  have HL1_6 := vl (HL1_5.out.below hb9)
  have HL2_6 := vl (HL2_5.out.below hb9)
  have HX0_6 := vl (HX0_5.out.below hb9)
  have HO0_6 := vl (HO0_5.out.below hb9)
  have HX2_6 := vl (HX2_5.out.below hb9)
  have HO2_6 := vl (HO2_5.out.below hb9)
  clear HL0_5 HL1_5 HL2_5 HX0_5 HO0_5 HX2_5 HO2_5
  have HB6 := vl (HB5.out.trans (hb9.mono HB5.out.size))
  clear hb9
  obtain ⟨l0_0, l0_1, l0_2⟩ := HL0_6.out.at
  obtain ⟨x0_0, x0_1, x0_2⟩ := HX0_6.out.at
  go_wp2
  go_region_held3 (fun w' => w'.cell? ⟨w.heap.size, 0, none⟩ = some (.bool C0.up) ∧ w'.cell? ⟨w.heap.size, 1, none⟩ = some (.slice A0 C0.T.length c0) ∧ w'.cell? ⟨w.heap.size, 2, none⟩ = some (.int .i64 C0.p) ∧ w'.cell? ⟨w4.heap.size, 0, none⟩ = some (.bool C0.up) ∧ w'.cell? ⟨w4.heap.size, 1, none⟩ = some (.slice Ax0 C0.T.length cx0) ∧ w'.cell? ⟨w4.heap.size, 2, none⟩ = some (.int .i64 C0.p) ∧ Below w6.heap.size w6 w')
    (first | exact ⟨l0_0, l0_1, l0_2, x0_0, x0_1, x0_2, Below.refl _ _⟩ | exact ⟨l0_0, l0_1, l0_2, x0_0, x0_1, x0_2, (Below.refl _ _).drew⟩ | assumption)
    (first
      | (go_at_call 21; obtain ⟨q0, q1, q2, q3, q4, q5, hb7⟩ : _ ∧ _ ∧ _ ∧ _ ∧ _ ∧ _ ∧ Below w6.heap.size w6 _ := by assumption
         refine (toMover C0 A0 c0 _ hn0 HR0.out (HU0.out.src.below (HB6.out.trans (hb7.mono HB6.out.size)))).mono ?_
         rintro en w' ⟨⟨Ae0, ce0, ge0, Ge0, rfl, _, hoe0⟩, hb'⟩
         have HOE := vl hoe0.trn
         have S0 := And.intro ((hb'.cell (cell_lt' q0)).trans q0) (And.intro ((hb'.cell (cell_lt' q1)).trans q1) (And.intro ((hb'.cell (cell_lt' q2)).trans q2) (And.intro ((hb'.cell (cell_lt' q3)).trans q3) (And.intro ((hb'.cell (cell_lt' q4)).trans q4) (And.intro ((hb'.cell (cell_lt' q5)).trans q5) (hb7.trans (hb'.mono hb7.size)))))))
         clear hb' hoe0)
      | (go_at_call 24; obtain ⟨q0, q1, q2, q3, q4, q5, hb7⟩ : _ ∧ _ ∧ _ ∧ _ ∧ _ ∧ _ ∧ Below w6.heap.size w6 _ := by assumption
         refine (eqMover C0 _ _ _ _ _ hn0 HR0.out (HO0_6.out.below hb7) HOE.out).mono ?_
         rintro en w' ⟨rfl, hb'⟩
         have S1 := And.intro ((hb'.cell (cell_lt' q0)).trans q0) (And.intro ((hb'.cell (cell_lt' q1)).trans q1) (And.intro ((hb'.cell (cell_lt' q2)).trans q2) (And.intro ((hb'.cell (cell_lt' q3)).trans q3) (And.intro ((hb'.cell (cell_lt' q4)).trans q4) (And.intro ((hb'.cell (cell_lt' q5)).trans q5) (hb7.trans (hb'.mono hb7.size)))))))
         clear hb'))
  obtain ⟨q0, q1, q2, q3, q4, q5, hb9⟩ : _ ∧ _ ∧ _ ∧ _ ∧ _ ∧ _ ∧ Below w6.heap.size w6 _ := by assumption
  obtain ⟨w7, hw9⟩ : ∃ u, u = w' := ⟨_, rfl⟩
  rw [← hw9] at q0 q1 q2 q3 q4 q5 hb9 ⊢
  clear hw9 q0 q1 q2 q3 q4 q5 S0 S1 HOE
  clear l0_0 l0_1 l0_2 x0_0 x0_1 x0_2
  have HL0_7 := vl (HL0_6.out.below hb9)
  have HL1_7 := vl (HL1_6.out.below hb9)
  have HL2_7 := vl (HL2_6.out.below hb9)
  have HX0_7 := vl (HX0_6.out.below hb9)
  have HO0_7 := vl (HO0_6.out.below hb9)
  have HX2_7 := vl (HX2_6.out.below hb9)
  have HO2_7 := vl (HO2_6.out.below hb9)
  clear HL0_6 HL1_6 HL2_6 HX0_6 HO0_6 HX2_6 HO2_6
  have HB7 := vl (HB6.out.trans (hb9.mono HB6.out.size))
  clear hb9
  obtain ⟨l2_0, l2_1, l2_2⟩ := HL2_7.out.at
  obtain ⟨x2_0, x2_1, x2_2⟩ := HX2_7.out.at
  go_wp2
  go_region_held3 (fun w' => w'.cell? ⟨g2, 0, none⟩ = some (.slice B2 r2.n b2) ∧ w'.cell? ⟨g2, 1, none⟩ = some (.int .i64 r2.v) ∧ w'.cell? ⟨g2, 2, none⟩ = some (.slice D2 r2.m d2) ∧ w'.cell? ⟨w5.heap.size, 0, none⟩ = some (.slice Bx2 r2.n bx2) ∧ w'.cell? ⟨w5.heap.size, 1, none⟩ = some (.int .i64 r2.v) ∧ w'.cell? ⟨w5.heap.size, 2, none⟩ = some (.slice Dx2 r2.m dx2) ∧ Below w7.heap.size w7 w')
    (first | exact ⟨l2_0, l2_1, l2_2, x2_0, x2_1, x2_2, Below.refl _ _⟩ | exact ⟨l2_0, l2_1, l2_2, x2_0, x2_1, x2_2, (Below.refl _ _).drew⟩ | assumption)
    (first
      | (go_at_call 29; obtain ⟨q0, q1, q2, q3, q4, q5, hb7⟩ : _ ∧ _ ∧ _ ∧ _ ∧ _ ∧ _ ∧ Below w7.heap.size w7 _ := by assumption
         refine (toReach r2 B2 D2 b2 d2 _ hn2 hm2 (HSP2.out.below (HB7.out.trans (hb7.mono HB7.out.size))) (HSI2.out.below (HB7.out.trans (hb7.mono HB7.out.size)))).mono ?_
         rintro en w' ⟨⟨Be2, be2, De2, de2, ge2, he2, rfl, _, hoe2⟩, hb'⟩
         have HOE := vl hoe2
         have S0 := And.intro ((hb'.cell (cell_lt' q0)).trans q0) (And.intro ((hb'.cell (cell_lt' q1)).trans q1) (And.intro ((hb'.cell (cell_lt' q2)).trans q2) (And.intro ((hb'.cell (cell_lt' q3)).trans q3) (And.intro ((hb'.cell (cell_lt' q4)).trans q4) (And.intro ((hb'.cell (cell_lt' q5)).trans q5) (hb7.trans (hb'.mono hb7.size)))))))
         clear hb' hoe2)
      | (go_at_call 31; obtain ⟨q0, q1, q2, q3, q4, q5, hb7⟩ : _ ∧ _ ∧ _ ∧ _ ∧ _ ∧ _ ∧ Below w7.heap.size w7 _ := by assumption
         refine (eqReach r2 _ _ _ _ _ _ _ _ _ hn2 hm2 (HO2_7.out.below hb7) HOE.out).mono ?_
         rintro en w' ⟨rfl, hb'⟩
         have S1 := And.intro ((hb'.cell (cell_lt' q0)).trans q0) (And.intro ((hb'.cell (cell_lt' q1)).trans q1) (And.intro ((hb'.cell (cell_lt' q2)).trans q2) (And.intro ((hb'.cell (cell_lt' q3)).trans q3) (And.intro ((hb'.cell (cell_lt' q4)).trans q4) (And.intro ((hb'.cell (cell_lt' q5)).trans q5) (hb7.trans (hb'.mono hb7.size)))))))
         clear hb'))
  all_goals
    obtain ⟨q0, q1, q2, q3, q4, q5, hb9⟩ : _ ∧ _ ∧ _ ∧ _ ∧ _ ∧ _ ∧ Below w7.heap.size w7 _ := by assumption
    go_wp2
    go_ret
    exact ⟨rfl, HB7.out.trans (hb9.mono HB7.out.size)⟩

theorem parOk : Try.f6.params.toList.all (fun t => Try.prog.readableRec t && decide (t < Try.prog.types.size)) = true := by kernel_rfl
set_option maxRecDepth 100000 in
theorem lifted (os : Os) (started : os.Started) (H : Type) (enc : TypeId × Value → H) :
    ReturnsInHanded {} Try.checked os 6 .any (Rows.fnExactTimeToSpec.pre6 enc Try.prog Try.f6 Rows.fnExactTimeToRow.domain false) (Rows.fnExactTimeToSpec.post enc Try.prog Try.f6 false true false false) := by
  refine law_lifted (C := Try.checked) own started (by kernel_rfl) Try.func6 laid (fun t ht => by
      have h := List.all_eq_true.1 parOk t ht
      rw [Bool.and_eq_true] at h
      exact ⟨h.1, of_decide_eq_true h.2⟩) rfl Try.underlying4 rfl
    (fun xs hx => by
      rw [show Try.f6.params.toList.length = 3 from by rw [Try.params6]; rfl] at hx
      match xs, hx with
      | [d0, d1, d2], _ => rfl)
    (ChangeSpec.witness6 (enc := enc) (C := Try.checked) false ⟨#[], #[.agg #[.bool false, .slice none 0 0, .int .i64 0], .agg #[.int .i64 0, .int .i64 0], .agg #[.slice none 0 0, .int .i64 0, .slice none 0 0]], []⟩ 8 (by kernel_rfl) (by kernel_rfl) (by kernel_rfl) (by kernel_rfl)) ?_
  intro W base args ds p hval0 hA0 _
  have hval : ∀ (j : Nat) t v, Try.f6.params[j]? = some t → args[j]? = some v → Value.okWide Try.prog W .any base t v := hval0
  have hA : DataW.TrodAll enc Try.prog W 0 (fun _ => true) true Try.f6.params.toList args.toList ds p := hA0
  clear hA0 hval0
  rw [Try.params6] at hA hval
  obtain ⟨v0, vs0, d0, ds0, p0, q0, hargs, rfl, rfl, h0, r0⟩ := trodAll_cons hA
  obtain ⟨v1, vs1, d1, ds1, p1, q1, rfl, rfl, rfl, h1, r1⟩ := trodAll_cons r0
  obtain ⟨v2, vs2, d2, ds2, p2, q2, rfl, rfl, rfl, h2, r2⟩ := trodAll_cons r1
  obtain ⟨rfl, rfl, rfl⟩ := trodAll_nil r2
  obtain rfl : args = #[v0, v1, v2] := by cases args; simp_all
  obtain ⟨C0, A0, c0, rfl, x0⟩ := open_mover (hval 0 34 _ rfl rfl) h0
  obtain ⟨Y1, rfl⟩ := open_way (hval 1 36 _ rfl rfl) h1
  obtain ⟨rc2, A2, D2, c2, e2, rfl, x2⟩ := open_reach (hval 2 49 _ rfl rfl) h2
  exact walk C0 A0 c0 Y1 rc2 A2 D2 c2 e2 W x0 x2

/-- The statement. -/
theorem proved : Rows.FnExactTimeToSaid :=
  OpenClaim.holds_of_wide 6 Try.f6 rfl rfl rfl rfl rfl rfl rfl ⟨rfl, rfl, rfl, rfl, rfl⟩ rfl rfl rfl rfl rfl (by kernel_rfl) Try.func6 (by show joinedFacts Try.prog _ _ _ _ = true; unfold joinedFacts; rw [Io.mayEnter, Io.liftsFinal, Io.make]; kernel_rfl)
    (of_decide_eq_true (by kernel_rfl)) (by unfold Func.isWrapper; first | (rw [if_pos (by decide +kernel)]; kernel_rfl) | (rw [if_neg (by decide +kernel)]; exact ⟨rfl, rfl⟩))
    (fun os started H enc _ => lifted os started H enc)
#print axioms proved
end Go.Proofs.Ytngmpimoebggdaa.fnExactTimeTo
