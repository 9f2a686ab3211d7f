/-
  For every input the Go function 'laws.FnExactMoverOk' returns true, and each argument reads afterwards as it read before. No further condition.
-/
import Derived.Test.YtngmpimoebggdaaSa1
import Derived.Test.YtngmpimoebggdaaSaO
import Derived.Test.YtngmpimoebggdaaLift
import Derived.Test.YtngmpimoebggdaaIo
import Derived.Test.YtngmpimoebggdaaOpen
import Derived.ChangeMaps5
namespace Go.Proofs.Ytngmpimoebggdaa.fnExactMoverOk
open Go.Proofs.Ytngmpimoebggdaa.C1 Go.Proofs.Ytngmpimoebggdaa.Lift Go.Proofs.Ytngmpimoebggdaa.Opened
open Go.ChangeShapes Go.WideShapes Go.ChangeAt Go.RowKit Go.ChangeMaps
set_option linter.unusedVariables false

set_option linter.unusedSimpArgs false
set_option maxRecDepth 100000 in
set_option maxHeartbeats 8000000 in
theorem walk (C0 : Mv) (A0 : Option Addr) (c0 : Nat) (Y1 : Wy) (w : World) (hu0 : ArgT w A0 C0.T) :
    Calls Try.prog 4 #[.agg #[.bool C0.up, .slice A0 C0.T.length c0, .int .i64 C0.p], .agg #[.int .i64 Y1.l, .int .i64 Y1.b]] w fun e w' => e = .returned (.bool true) ∧ Below w.heap.size w w' := by
  have hB := (((Below.refl w.heap.size w).alloc (Nat.le_refl _) (.cells #[.bool C0.up, .slice A0 C0.T.length c0, .int .i64 C0.p] 34)).alloc (by simp) (.cells #[.int .i64 Y1.l, .int .i64 Y1.b] 36))
  have hl0 := ((MBox.new w C0 A0 c0 34).below ((Below.refl _ _).alloc (Nat.le_refl _) (.cells #[.int .i64 Y1.l, .int .i64 Y1.b] 36)))
  have hl1 : WBox ((w.alloc (.cells #[.bool C0.up, .slice A0 C0.T.length c0, .int .i64 C0.p] 34)).alloc (.cells #[.int .i64 Y1.l, .int .i64 Y1.b] 36)) (w.heap.size + 1) Y1 36 := by have h := (WBox.new (w.alloc (.cells #[.bool C0.up, .slice A0 C0.T.length c0, .int .i64 C0.p] 34)) Y1 36); simpa using h
  have HB0 := vl hB
  have HL0_0 := vl hl0
  have HL1_0 := vl hl1
  have HU0 := vl hu0
  have HA0_0 := vl (hu0.below hB)
  clear hu0
  generalize hW : ((w.alloc (.cells #[.bool C0.up, .slice A0 C0.T.length c0, .int .i64 C0.p] 34)).alloc (.cells #[.int .i64 Y1.l, .int .i64 Y1.b] 36)) = W at HB0 HL0_0 HL1_0 HA0_0
  clear hB hl0 hl1
  obtain ⟨l0_0, l0_1, l0_2⟩ := HL0_0.out.at
  obtain ⟨l1_0, l1_1⟩ := HL1_0.out.at
  by_cases hbig0 : (1048576 : Int) < (szT C0.T : Int)
  · go_enter Try.func4, Try.ntmps4
    go_wp2_with fail
    clear hW
    refine (szMover_no C0 A0 c0 _ _ (by omega) (by omega) HA0_0.out hbig0).mono ?_
    rintro en w1 ⟨rfl, hb⟩
    have HBe := vl (HB0.out.trans (hb.mono HB0.out.size))
    clear hb
    go_wp2
    go_ret
    exact ⟨rfl, HBe.out⟩
  have hsz0 : (szT C0.T : Int) ≤ 1048576 := by omega
  have HM0 := vl (mod_of (T := C0.T) (by omega))
  have hn0 := HM0.out.rows
  have HR0 := vl (fun r (hr : r ∈ C0.T) => HM0.out.row hr)
  have hnn0 : (0 : Int) ≤ 1048576 - (szT C0.T : Int) := by omega
  clear hbig0
  go_enter Try.func4, Try.ntmps4
  go_wp2_with fail
  clear hW
  refine (szMover_yes C0 A0 c0 _ _ (by omega) HA0_0.out hsz0).mono ?_
  rintro en w1 ⟨rfl, hb⟩
  clear l0_0 l0_1 l0_2 l1_0 l1_1
  have HL0_1 := vl (HL0_0.out.below hb)
  have HL1_1 := vl (HL1_0.out.below hb)
  clear HL0_0 HL1_0
  have HB1 := vl (HB0.out.trans (hb.mono HB0.out.size))
  clear hb
  obtain ⟨l0_0, l0_1, l0_2⟩ := HL0_1.out.at
  obtain ⟨l1_0, l1_1⟩ := HL1_1.out.at
  clear hnn0
  go_wp2
  clear l0_0 l0_1 l0_2 l1_0 l1_1
  generalize hg1 : w.heap.size + 1 = g1 at *
  obtain ⟨l0_0, l0_1, l0_2⟩ := HL0_1.out.at
  obtain ⟨l1_0, l1_1⟩ := HL1_1.out.at
  go_region_held3 (fun w' => w'.cell? ⟨w.heap.size, 0, none⟩ = some (.bool C0.up) ∧ w'.cell? ⟨w.heap.size, 1, none⟩ = some (.slice A0 C0.T.length c0) ∧ w'.cell? ⟨w.heap.size, 2, none⟩ = some (.int .i64 C0.p) ∧ w'.cell? ⟨g1, 0, none⟩ = some (.int .i64 Y1.l) ∧ w'.cell? ⟨g1, 1, none⟩ = some (.int .i64 Y1.b) ∧ Below w1.heap.size w1 w')
    (first | exact ⟨l0_0, l0_1, l0_2, l1_0, l1_1, Below.refl _ _⟩ | exact ⟨l0_0, l0_1, l0_2, l1_0, l1_1, (Below.refl _ _).drew⟩ | assumption)
    (first
      | (go_at_call 21; obtain ⟨q0, q1, q2, q3, q4, hb7⟩ : _ ∧ _ ∧ _ ∧ _ ∧ _ ∧ Below w1.heap.size w1 _ := by assumption
         refine (toMover C0 A0 c0 _ hn0 HR0.out (HU0.out.src.below (HB1.out.trans (hb7.mono HB1.out.size)))).mono ?_
         rintro en w' ⟨⟨As0, cs0, gs0, Gs0, rfl, _, hos0⟩, hb'⟩
         have HOs0 := vl hos0.trn
         have S0 := And.intro ((hb'.cell (cell_lt' q0)).trans q0) (And.intro ((hb'.cell (cell_lt' q1)).trans q1) (And.intro ((hb'.cell (cell_lt' q2)).trans q2) (And.intro ((hb'.cell (cell_lt' q3)).trans q3) (And.intro ((hb'.cell (cell_lt' q4)).trans q4) (hb7.trans (hb'.mono hb7.size))))))
         clear hb' hos0)
      | (go_at_call 22; obtain ⟨q0, q1, q2, q3, q4, hb7⟩ : _ ∧ _ ∧ _ ∧ _ ∧ _ ∧ Below w1.heap.size w1 _ := by assumption
         refine (toWay Y1 _).mono ?_
         rintro en w' ⟨rfl, hb'⟩
         have HOs0' := vl (HOs0.out.below hb')
         have S1 := And.intro ((hb'.cell (cell_lt' q0)).trans q0) (And.intro ((hb'.cell (cell_lt' q1)).trans q1) (And.intro ((hb'.cell (cell_lt' q2)).trans q2) (And.intro ((hb'.cell (cell_lt' q3)).trans q3) (And.intro ((hb'.cell (cell_lt' q4)).trans q4) (hb7.trans (hb'.mono hb7.size))))))
         clear hb')
      | (go_at_call 20; obtain ⟨q0, q1, q2, q3, q4, hb7⟩ : _ ∧ _ ∧ _ ∧ _ ∧ _ ∧ Below w1.heap.size w1 _ := by assumption
         refine (mvok_spec _ _ _ _ _ HM0.out HOs0'.out).mono ?_
         rintro en w' ⟨rfl, hb'⟩
         have S2 := And.intro ((hb'.cell (cell_lt' q0)).trans q0) (And.intro ((hb'.cell (cell_lt' q1)).trans q1) (And.intro ((hb'.cell (cell_lt' q2)).trans q2) (And.intro ((hb'.cell (cell_lt' q3)).trans q3) (And.intro ((hb'.cell (cell_lt' q4)).trans q4) (hb7.trans (hb'.mono hb7.size))))))
         clear hb'))
  obtain ⟨q0, q1, q2, q3, q4, hb9⟩ : _ ∧ _ ∧ _ ∧ _ ∧ _ ∧ Below w1.heap.size w1 _ := by assumption
  obtain ⟨w2, hw9⟩ : ∃ u, u = w' := ⟨_, rfl⟩
  rw [← hw9] at q0 q1 q2 q3 q4 hb9 ⊢
  clear hw9 q0 q1 q2 q3 q4 S0 S1 S2 HOs0 HOs0'
  clear l0_0 l0_1 l0_2 l1_0 l1_1
  have HL0_2 := vl (HL0_1.out.below hb9)
  have HL1_2 := vl (HL1_1.out.below hb9)
  clear HL0_1 HL1_1
  have HB2 := vl (HB1.out.trans (hb9.mono HB1.out.size))
  clear hb9
  obtain ⟨l0_0, l0_1, l0_2⟩ := HL0_2.out.at
  go_wp2_with fail
  refine (toMover C0 A0 c0 _ hn0 HR0.out (HU0.out.src.below HB2.out)).mono ?_
  rintro en w3 ⟨⟨Ax0, cx0, gx0, Gx0, rfl, _, hox0⟩, hb⟩
  have hba := hb.trans (((Below.refl w3.heap.size w3).alloc (Nat.le_refl _) (.cells #[.bool C0.up, .slice Ax0 C0.T.length cx0, .int .i64 C0.p] 40)).mono hb.size)
  have HX0_3 := vl (MBox.new w3 C0 Ax0 cx0 40)
  have HO0_3 := vl ((hox0.trn).below ((Below.refl w3.heap.size w3).alloc (Nat.le_refl _) (.cells #[.bool C0.up, .slice Ax0 C0.T.length cx0, .int .i64 C0.p] 40)))
  clear l0_0 l0_1 l0_2
  have HL0_3 := vl (HL0_2.out.below hba)
  have HL1_3 := vl (HL1_2.out.below hba)
  clear HL0_2 HL1_2
  have HB3 := vl (HB2.out.trans (hba.mono HB2.out.size))
  clear hb hba hox0
  obtain ⟨u3, hu3⟩ : ∃ u, u = (w3.alloc (.cells #[.bool C0.up, .slice Ax0 C0.T.length cx0, .int .i64 C0.p] 40)) := ⟨_, rfl⟩
  rw [← hu3] at HL0_3 HL1_3 HX0_3 HO0_3 HB3
  obtain ⟨l1_0, l1_1⟩ := HL1_3.out.at
  obtain ⟨x0_0, x0_1, x0_2⟩ := HX0_3.out.at
  go_wp2
  try rw [← hu3]
  clear hu3
  go_region_held3 (fun w' => w'.cell? ⟨g1, 0, none⟩ = some (.int .i64 Y1.l) ∧ w'.cell? ⟨g1, 1, none⟩ = some (.int .i64 Y1.b) ∧ w'.cell? ⟨w3.heap.size, 0, none⟩ = some (.bool C0.up) ∧ w'.cell? ⟨w3.heap.size, 1, none⟩ = some (.slice Ax0 C0.T.length cx0) ∧ w'.cell? ⟨w3.heap.size, 2, none⟩ = some (.int .i64 C0.p) ∧ Below u3.heap.size u3 w')
    (first | exact ⟨l1_0, l1_1, x0_0, x0_1, x0_2, Below.refl _ _⟩ | exact ⟨l1_0, l1_1, x0_0, x0_1, x0_2, (Below.refl _ _).drew⟩ | assumption)
    (first
      | (go_at_call 22; obtain ⟨q0, q1, q2, q3, q4, hb7⟩ : _ ∧ _ ∧ _ ∧ _ ∧ _ ∧ Below u3.heap.size u3 _ := by assumption
         refine (toWay Y1 _).mono ?_
         rintro en w' ⟨rfl, hb'⟩
         have S0 := And.intro ((hb'.cell (cell_lt' q0)).trans q0) (And.intro ((hb'.cell (cell_lt' q1)).trans q1) (And.intro ((hb'.cell (cell_lt' q2)).trans q2) (And.intro ((hb'.cell (cell_lt' q3)).trans q3) (And.intro ((hb'.cell (cell_lt' q4)).trans q4) (hb7.trans (hb'.mono hb7.size))))))
         clear hb')
      | (go_at_call 23; obtain ⟨q0, q1, q2, q3, q4, hb7⟩ : _ ∧ _ ∧ _ ∧ _ ∧ _ ∧ Below u3.heap.size u3 _ := by assumption
         refine (mvok_impl C0 Ax0 cx0 Y1 _ HM0.out (HO0_3.out.below hb7)).mono ?_
         rintro en w' ⟨rfl, hb'⟩
         have S1 := And.intro ((hb'.cell (cell_lt' q0)).trans q0) (And.intro ((hb'.cell (cell_lt' q1)).trans q1) (And.intro ((hb'.cell (cell_lt' q2)).trans q2) (And.intro ((hb'.cell (cell_lt' q3)).trans q3) (And.intro ((hb'.cell (cell_lt' q4)).trans q4) (hb7.trans (hb'.mono hb7.size))))))
         clear hb'))
  obtain ⟨q0, q1, q2, q3, q4, hb9⟩ : _ ∧ _ ∧ _ ∧ _ ∧ _ ∧ Below u3.heap.size u3 _ := by assumption
  obtain ⟨w4, hw9⟩ : ∃ u, u = w' := ⟨_, rfl⟩
  rw [← hw9] at q0 q1 q2 q3 q4 hb9 ⊢
  clear hw9 q0 q1 q2 q3 q4 S0 S1 
  clear l1_0 l1_1 x0_0 x0_1 x0_2
  have HL0_4 := vl (HL0_3.out.below hb9)
  have HL1_4 := vl (HL1_3.out.below hb9)
  have HX0_4 := vl (HX0_3.out.below hb9)
  have HO0_4 := vl (HO0_3.out.below hb9)
  clear HL0_3 HL1_3 HX0_3 HO0_3
  have HB4 := vl (HB3.out.trans (hb9.mono HB3.out.size))
  clear hb9
  obtain ⟨l0_0, l0_1, l0_2⟩ := HL0_4.out.at
  obtain ⟨x0_0, x0_1, x0_2⟩ := HX0_4.out.at
  go_wp2
  go_region_held3 (fun w' => w'.cell? ⟨w.heap.size, 0, none⟩ = some (.bool C0.up) ∧ w'.cell? ⟨w.heap.size, 1, none⟩ = some (.slice A0 C0.T.length c0) ∧ w'.cell? ⟨w.heap.size, 2, none⟩ = some (.int .i64 C0.p) ∧ w'.cell? ⟨w3.heap.size, 0, none⟩ = some (.bool C0.up) ∧ w'.cell? ⟨w3.heap.size, 1, none⟩ = some (.slice Ax0 C0.T.length cx0) ∧ w'.cell? ⟨w3.heap.size, 2, none⟩ = some (.int .i64 C0.p) ∧ Below w4.heap.size w4 w')
    (first | exact ⟨l0_0, l0_1, l0_2, x0_0, x0_1, x0_2, Below.refl _ _⟩ | exact ⟨l0_0, l0_1, l0_2, x0_0, x0_1, x0_2, (Below.refl _ _).drew⟩ | assumption)
    (first
      | (go_at_call 21; obtain ⟨q0, q1, q2, q3, q4, q5, hb7⟩ : _ ∧ _ ∧ _ ∧ _ ∧ _ ∧ _ ∧ Below w4.heap.size w4 _ := by assumption
         refine (toMover C0 A0 c0 _ hn0 HR0.out (HU0.out.src.below (HB4.out.trans (hb7.mono HB4.out.size)))).mono ?_
         rintro en w' ⟨⟨Ae0, ce0, ge0, Ge0, rfl, _, hoe0⟩, hb'⟩
         have HOE := vl hoe0.trn
         have S0 := And.intro ((hb'.cell (cell_lt' q0)).trans q0) (And.intro ((hb'.cell (cell_lt' q1)).trans q1) (And.intro ((hb'.cell (cell_lt' q2)).trans q2) (And.intro ((hb'.cell (cell_lt' q3)).trans q3) (And.intro ((hb'.cell (cell_lt' q4)).trans q4) (And.intro ((hb'.cell (cell_lt' q5)).trans q5) (hb7.trans (hb'.mono hb7.size)))))))
         clear hb' hoe0)
      | (go_at_call 24; obtain ⟨q0, q1, q2, q3, q4, q5, hb7⟩ : _ ∧ _ ∧ _ ∧ _ ∧ _ ∧ _ ∧ Below w4.heap.size w4 _ := by assumption
         refine (eqMover C0 _ _ _ _ _ hn0 HR0.out (HO0_4.out.below hb7) HOE.out).mono ?_
         rintro en w' ⟨rfl, hb'⟩
         have S1 := And.intro ((hb'.cell (cell_lt' q0)).trans q0) (And.intro ((hb'.cell (cell_lt' q1)).trans q1) (And.intro ((hb'.cell (cell_lt' q2)).trans q2) (And.intro ((hb'.cell (cell_lt' q3)).trans q3) (And.intro ((hb'.cell (cell_lt' q4)).trans q4) (And.intro ((hb'.cell (cell_lt' q5)).trans q5) (hb7.trans (hb'.mono hb7.size)))))))
         clear hb'))
  all_goals
    obtain ⟨q0, q1, q2, q3, q4, q5, hb9⟩ : _ ∧ _ ∧ _ ∧ _ ∧ _ ∧ _ ∧ Below w4.heap.size w4 _ := by assumption
    go_wp2
    go_ret
    exact ⟨rfl, HB4.out.trans (hb9.mono HB4.out.size)⟩

theorem parOk : Try.f4.params.toList.all (fun t => Try.prog.readableRec t && decide (t < Try.prog.types.size)) = true := by kernel_rfl
set_option maxRecDepth 100000 in
theorem lifted (os : Os) (started : os.Started) (H : Type) (enc : TypeId × Value → H) :
    ReturnsInHanded {} Try.checked os 4 .any (Rows.fnExactMoverOkSpec.pre6 enc Try.prog Try.f4 Rows.fnExactMoverOkRow.domain false) (Rows.fnExactMoverOkSpec.post enc Try.prog Try.f4 false true false false) := by
  refine law_lifted (C := Try.checked) own started (by kernel_rfl) Try.func4 laid (fun t ht => by
      have h := List.all_eq_true.1 parOk t ht
      rw [Bool.and_eq_true] at h
      exact ⟨h.1, of_decide_eq_true h.2⟩) rfl Try.underlying4 rfl
    (fun xs hx => by
      rw [show Try.f4.params.toList.length = 2 from by rw [Try.params4]; rfl] at hx
      match xs, hx with
      | [d0, d1], _ => rfl)
    (ChangeSpec.witness6 (enc := enc) (C := Try.checked) false ⟨#[], #[.agg #[.bool false, .slice none 0 0, .int .i64 0], .agg #[.int .i64 0, .int .i64 0]], []⟩ 8 (by kernel_rfl) (by kernel_rfl) (by kernel_rfl) (by kernel_rfl)) ?_
  intro W base args ds p hval0 hA0 _
  have hval : ∀ (j : Nat) t v, Try.f4.params[j]? = some t → args[j]? = some v → Value.okWide Try.prog W .any base t v := hval0
  have hA : DataW.TrodAll enc Try.prog W 0 (fun _ => true) true Try.f4.params.toList args.toList ds p := hA0
  clear hA0 hval0
  rw [Try.params4] at hA hval
  obtain ⟨v0, vs0, d0, ds0, p0, q0, hargs, rfl, rfl, h0, r0⟩ := trodAll_cons hA
  obtain ⟨v1, vs1, d1, ds1, p1, q1, rfl, rfl, rfl, h1, r1⟩ := trodAll_cons r0
  obtain ⟨rfl, rfl, rfl⟩ := trodAll_nil r1
  obtain rfl : args = #[v0, v1] := by cases args; simp_all
  obtain ⟨C0, A0, c0, rfl, x0⟩ := open_mover (hval 0 34 _ rfl rfl) h0
  obtain ⟨Y1, rfl⟩ := open_way (hval 1 36 _ rfl rfl) h1
  exact walk C0 A0 c0 Y1 W x0

/-- The statement. -/
theorem proved : Rows.FnExactMoverOkSaid :=
  OpenClaim.holds_of_wide 4 Try.f4 rfl rfl rfl rfl rfl rfl rfl ⟨rfl, rfl, rfl, rfl, rfl⟩ rfl rfl rfl rfl rfl (by kernel_rfl) Try.func4 (by show joinedFacts Try.prog _ _ _ _ = true; unfold joinedFacts; rw [Io.mayEnter, Io.liftsFinal, Io.make]; kernel_rfl)
    (of_decide_eq_true (by kernel_rfl)) (by unfold Func.isWrapper; first | (rw [if_pos (by decide +kernel)]; kernel_rfl) | (rw [if_neg (by decide +kernel)]; exact ⟨rfl, rfl⟩))
    (fun os started H enc _ => lifted os started H enc)
#print axioms proved
end Go.Proofs.Ytngmpimoebggdaa.fnExactMoverOk
