/-
  For every input the Go function 'laws.FnExactDepthIn' returns true, and each argument reads afterwards as it read before. No further condition.
-/
import Derived.Test.YtmabaibpdjmckaaSa3
import Derived.Test.YtmabaibpdjmckaaSaO
import Derived.Test.YtmabaibpdjmckaaOpenR
import Derived.Test.YtmabaibpdjmckaaLift
import Derived.Test.YtmabaibpdjmckaaOpen
import Derived.ChangeMaps5
namespace Go.Proofs.Ytmabaibpdjmckaa.fnExactDepthIn
open Go.Proofs.Ytmabaibpdjmckaa.C1 Go.Proofs.Ytmabaibpdjmckaa.Lift Go.Proofs.Ytmabaibpdjmckaa.Opened
open Go.ChangeShapes Go.WideShapes Go.ChangeAt Go.RowKit Go.ChangeMaps
set_option linter.unusedVariables false

set_option linter.unusedSimpArgs false
set_option maxRecDepth 100000 in
set_option maxHeartbeats 8000000 in
theorem walk (Y0 : Wy) (r1 : Rc) (B1 : Option Addr) (D1 : Option Addr) (b1 : Nat) (d1 : Nat) (w : World) (hu1 : ArgR w r1 B1 D1) :
    Calls Try.prog 5 #[.agg #[.int .i64 Y0.l, .int .i64 Y0.b], .agg #[.slice B1 r1.n b1, .int .i64 r1.v, .slice D1 r1.m d1]] w fun e w' => e = .returned (.bool true) ∧ Below w.heap.size w w' := by
  have hB := (((Below.refl w.heap.size w).alloc (Nat.le_refl _) (.cells #[.int .i64 Y0.l, .int .i64 Y0.b] 50)).alloc (by simp) (.cells #[.slice B1 r1.n b1, .int .i64 r1.v, .slice D1 r1.m d1] 56))
  have hl0 := ((WBox.new w Y0 50).below ((Below.refl _ _).alloc (Nat.le_refl _) (.cells #[.slice B1 r1.n b1, .int .i64 r1.v, .slice D1 r1.m d1] 56)))
  have hl1 : Box ((w.alloc (.cells #[.int .i64 Y0.l, .int .i64 Y0.b] 50)).alloc (.cells #[.slice B1 r1.n b1, .int .i64 r1.v, .slice D1 r1.m d1] 56)) (w.heap.size + 1) (.slice B1 r1.n b1) (.int .i64 r1.v) (.slice D1 r1.m d1) 56 := by have h := (Box.new (w.alloc (.cells #[.int .i64 Y0.l, .int .i64 Y0.b] 50)) (.slice B1 r1.n b1) (.int .i64 r1.v) (.slice D1 r1.m d1) 56); simpa using h
  have HB0 := vl hB
  have HL0_0 := vl hl0
  have HL1_0 := vl hl1
  obtain ⟨n1_1, n2_1, _, _, hsp1, hsi1⟩ := hu1
  have HSP1 := vl hsp1
  have HSI1 := vl hsi1
  clear hsp1 hsi1
  generalize hW : ((w.alloc (.cells #[.int .i64 Y0.l, .int .i64 Y0.b] 50)).alloc (.cells #[.slice B1 r1.n b1, .int .i64 r1.v, .slice D1 r1.m d1] 56)) = W at HB0 HL0_0 HL1_0
  clear hB hl0 hl1
  obtain ⟨l0_0, l0_1⟩ := HL0_0.out.at
  obtain ⟨l1_0, l1_1, l1_2⟩ := HL1_0.out.at
  by_cases hbig1 : (1048576 : Int) < (r1.n : Int) + r1.m
  · go_enter Try.func5, Try.ntmps5
    go_wp2_with fail
    clear hW
    refine (szReach_no _ _ _ _ _ _ _ _ _ (by omega) (by omega) n1_1 n2_1 hbig1).mono ?_
    rintro en w1 ⟨rfl, hb⟩
    have HBe := vl (HB0.out.trans (hb.mono HB0.out.size))
    clear hb
    go_wp2
    go_ret
    exact ⟨rfl, HBe.out⟩
  have hn1 : r1.n ≤ 1048576 := by omega
  have hm1 : r1.m ≤ 1048576 := by omega
  have hsz1 : (r1.n : Int) + r1.m ≤ 1048576 := by omega
  have hnn1 : (0 : Int) ≤ 1048576 - (r1.n : Int) - (r1.m : Int) := by omega
  clear hbig1
  go_enter Try.func5, Try.ntmps5
  go_wp2_with fail
  clear hW
  refine (szReach_yes _ _ _ _ _ _ _ _ _ (by omega) (by omega) hsz1).mono ?_
  rintro en w1 ⟨rfl, hb⟩
  clear l0_0 l0_1 l1_0 l1_1 l1_2
  have HL0_1 := vl (HL0_0.out.below hb)
  have HL1_1 := vl (HL1_0.out.below hb)
  clear HL0_0 HL1_0
  have HB1 := vl (HB0.out.trans (hb.mono HB0.out.size))
  clear hb
  obtain ⟨l0_0, l0_1⟩ := HL0_1.out.at
  obtain ⟨l1_0, l1_1, l1_2⟩ := HL1_1.out.at
  clear hnn1
  go_wp2
  clear l0_0 l0_1 l1_0 l1_1 l1_2
  generalize hg1 : w.heap.size + 1 = g1 at *
  obtain ⟨l0_0, l0_1⟩ := HL0_1.out.at
  obtain ⟨l1_0, l1_1, l1_2⟩ := HL1_1.out.at
  go_region_held3 (fun w' => w'.cell? ⟨w.heap.size, 0, none⟩ = some (.int .i64 Y0.l) ∧ w'.cell? ⟨w.heap.size, 1, none⟩ = some (.int .i64 Y0.b) ∧ w'.cell? ⟨g1, 0, none⟩ = some (.slice B1 r1.n b1) ∧ w'.cell? ⟨g1, 1, none⟩ = some (.int .i64 r1.v) ∧ w'.cell? ⟨g1, 2, none⟩ = some (.slice D1 r1.m d1) ∧ Below w1.heap.size w1 w')
    (first | exact ⟨l0_0, l0_1, l1_0, l1_1, l1_2, Below.refl _ _⟩ | exact ⟨l0_0, l0_1, l1_0, l1_1, l1_2, (Below.refl _ _).drew⟩ | assumption)
    (first
      | (go_at_call 26; obtain ⟨q0, q1, q2, q3, q4, hb7⟩ : _ ∧ _ ∧ _ ∧ _ ∧ _ ∧ Below w1.heap.size w1 _ := by assumption
         refine (toWay Y0 _).mono ?_
         rintro en w' ⟨rfl, hb'⟩
         have S0 := And.intro ((hb'.cell (cell_lt' q0)).trans q0) (And.intro ((hb'.cell (cell_lt' q1)).trans q1) (And.intro ((hb'.cell (cell_lt' q2)).trans q2) (And.intro ((hb'.cell (cell_lt' q3)).trans q3) (And.intro ((hb'.cell (cell_lt' q4)).trans q4) (hb7.trans (hb'.mono hb7.size))))))
         clear hb')
      | (go_at_call 30; obtain ⟨q0, q1, q2, q3, q4, hb7⟩ : _ ∧ _ ∧ _ ∧ _ ∧ _ ∧ Below w1.heap.size w1 _ := by assumption
         refine (toReach r1 B1 D1 b1 d1 _ hn1 hm1 (HSP1.out.below (HB1.out.trans (hb7.mono HB1.out.size))) (HSI1.out.below (HB1.out.trans (hb7.mono HB1.out.size)))).mono ?_
         rintro en w' ⟨⟨Bs1, bs1, Ds1, ds1, gs1, hs1, rfl, _, hos1⟩, hb'⟩
         have HOs1 := vl hos1
         have S1 := And.intro ((hb'.cell (cell_lt' q0)).trans q0) (And.intro ((hb'.cell (cell_lt' q1)).trans q1) (And.intro ((hb'.cell (cell_lt' q2)).trans q2) (And.intro ((hb'.cell (cell_lt' q3)).trans q3) (And.intro ((hb'.cell (cell_lt' q4)).trans q4) (hb7.trans (hb'.mono hb7.size))))))
         clear hb' hos1)
      | (go_at_call 29; obtain ⟨q0, q1, q2, q3, q4, hb7⟩ : _ ∧ _ ∧ _ ∧ _ ∧ _ ∧ Below w1.heap.size w1 _ := by assumption
         refine (depin_spec _ _ _ _ _ _ _ hn1 hm1 HOs1.out.pts HOs1.out.ints).mono ?_
         rintro en w' ⟨rfl, hb'⟩
         have S2 := And.intro ((hb'.cell (cell_lt' q0)).trans q0) (And.intro ((hb'.cell (cell_lt' q1)).trans q1) (And.intro ((hb'.cell (cell_lt' q2)).trans q2) (And.intro ((hb'.cell (cell_lt' q3)).trans q3) (And.intro ((hb'.cell (cell_lt' q4)).trans q4) (hb7.trans (hb'.mono hb7.size))))))
         clear hb'))
  obtain ⟨q0, q1, q2, q3, q4, hb9⟩ : _ ∧ _ ∧ _ ∧ _ ∧ _ ∧ Below w1.heap.size w1 _ := by assumption
  obtain ⟨w2, hw9⟩ : ∃ u, u = w' := ⟨_, rfl⟩
  rw [← hw9] at q0 q1 q2 q3 q4 hb9 ⊢
  clear hw9 q0 q1 q2 q3 q4 S0 S1 S2 HOs1
  clear l0_0 l0_1 l1_0 l1_1 l1_2
  have HL0_2 := vl (HL0_1.out.below hb9)
  have HL1_2 := vl (HL1_1.out.below hb9)
  clear HL0_1 HL1_1
  have HB2 := vl (HB1.out.trans (hb9.mono HB1.out.size))
  clear hb9
  obtain ⟨l1_0, l1_1, l1_2⟩ := HL1_2.out.at
  go_wp2_with fail
  refine (toReach r1 B1 D1 b1 d1 _ hn1 hm1 (HSP1.out.below HB2.out) (HSI1.out.below HB2.out)).mono ?_
  rintro en w3 ⟨⟨Bx1, bx1, Dx1, dx1, gx1, hx1, rfl, _, hox1⟩, hb⟩
  have hba := hb.trans (((Below.refl w3.heap.size w3).alloc (Nat.le_refl _) (.cells #[.slice Bx1 r1.n bx1, .int .i64 r1.v, .slice Dx1 r1.m dx1] 34)).mono hb.size)
  have HX1_3 := vl (Box.new w3 (.slice Bx1 r1.n bx1) (.int .i64 r1.v) (.slice Dx1 r1.m dx1) 34)
  have HO1_3 := vl ((hox1).below ((Below.refl w3.heap.size w3).alloc (Nat.le_refl _) (.cells #[.slice Bx1 r1.n bx1, .int .i64 r1.v, .slice Dx1 r1.m dx1] 34)))
  clear l1_0 l1_1 l1_2
  have HL0_3 := vl (HL0_2.out.below hba)
  have HL1_3 := vl (HL1_2.out.below hba)
  clear HL0_2 HL1_2
  have HB3 := vl (HB2.out.trans (hba.mono HB2.out.size))
  clear hb hba hox1
  obtain ⟨u3, hu3⟩ : ∃ u, u = (w3.alloc (.cells #[.slice Bx1 r1.n bx1, .int .i64 r1.v, .slice Dx1 r1.m dx1] 34)) := ⟨_, rfl⟩
  rw [← hu3] at HL0_3 HL1_3 HX1_3 HO1_3 HB3
  obtain ⟨l0_0, l0_1⟩ := HL0_3.out.at
  obtain ⟨x1_0, x1_1, x1_2⟩ := HX1_3.out.at
  go_wp2
  try rw [← hu3]
  clear hu3
  go_region_held3 (fun w' => w'.cell? ⟨w.heap.size, 0, none⟩ = some (.int .i64 Y0.l) ∧ w'.cell? ⟨w.heap.size, 1, none⟩ = some (.int .i64 Y0.b) ∧ w'.cell? ⟨w3.heap.size, 0, none⟩ = some (.slice Bx1 r1.n bx1) ∧ w'.cell? ⟨w3.heap.size, 1, none⟩ = some (.int .i64 r1.v) ∧ w'.cell? ⟨w3.heap.size, 2, none⟩ = some (.slice Dx1 r1.m dx1) ∧ Below u3.heap.size u3 w')
    (first | exact ⟨l0_0, l0_1, x1_0, x1_1, x1_2, Below.refl _ _⟩ | exact ⟨l0_0, l0_1, x1_0, x1_1, x1_2, (Below.refl _ _).drew⟩ | assumption)
    (first
      | (go_at_call 26; obtain ⟨q0, q1, q2, q3, q4, hb7⟩ : _ ∧ _ ∧ _ ∧ _ ∧ _ ∧ Below u3.heap.size u3 _ := by assumption
         refine (toWay Y0 _).mono ?_
         rintro en w' ⟨rfl, hb'⟩
         have S0 := And.intro ((hb'.cell (cell_lt' q0)).trans q0) (And.intro ((hb'.cell (cell_lt' q1)).trans q1) (And.intro ((hb'.cell (cell_lt' q2)).trans q2) (And.intro ((hb'.cell (cell_lt' q3)).trans q3) (And.intro ((hb'.cell (cell_lt' q4)).trans q4) (hb7.trans (hb'.mono hb7.size))))))
         clear hb')
      | (go_at_call 17; obtain ⟨q0, q1, q2, q3, q4, hb7⟩ : _ ∧ _ ∧ _ ∧ _ ∧ _ ∧ Below u3.heap.size u3 _ := by assumption
         refine (depin_impl Y0 r1 Bx1 Dx1 bx1 dx1 _ hn1 hm1 (HO1_3.out.below hb7).pts (HO1_3.out.below hb7).ints).mono ?_
         rintro en w' ⟨rfl, hb'⟩
         have S1 := And.intro ((hb'.cell (cell_lt' q0)).trans q0) (And.intro ((hb'.cell (cell_lt' q1)).trans q1) (And.intro ((hb'.cell (cell_lt' q2)).trans q2) (And.intro ((hb'.cell (cell_lt' q3)).trans q3) (And.intro ((hb'.cell (cell_lt' q4)).trans q4) (hb7.trans (hb'.mono hb7.size))))))
         clear hb'))
  obtain ⟨q0, q1, q2, q3, q4, hb9⟩ : _ ∧ _ ∧ _ ∧ _ ∧ _ ∧ Below u3.heap.size u3 _ := by assumption
  obtain ⟨w4, hw9⟩ : ∃ u, u = w' := ⟨_, rfl⟩
  rw [← hw9] at q0 q1 q2 q3 q4 hb9 ⊢
  clear hw9 q0 q1 q2 q3 q4 S0 S1 
  clear l0_0 l0_1 x1_0 x1_1 x1_2
  have HL0_4 := vl (HL0_3.out.below hb9)
  have HL1_4 := vl (HL1_3.out.below hb9)
  have HX1_4 := vl (HX1_3.out.below hb9)
  have HO1_4 := vl (HO1_3.out.below hb9)
  clear HL0_3 HL1_3 HX1_3 HO1_3
  have HB4 := vl (HB3.out.trans (hb9.mono HB3.out.size))
  clear hb9
  obtain ⟨l1_0, l1_1, l1_2⟩ := HL1_4.out.at
  obtain ⟨x1_0, x1_1, x1_2⟩ := HX1_4.out.at
  go_wp2
  go_region_held3 (fun w' => w'.cell? ⟨g1, 0, none⟩ = some (.slice B1 r1.n b1) ∧ w'.cell? ⟨g1, 1, none⟩ = some (.int .i64 r1.v) ∧ w'.cell? ⟨g1, 2, none⟩ = some (.slice D1 r1.m d1) ∧ w'.cell? ⟨w3.heap.size, 0, none⟩ = some (.slice Bx1 r1.n bx1) ∧ w'.cell? ⟨w3.heap.size, 1, none⟩ = some (.int .i64 r1.v) ∧ w'.cell? ⟨w3.heap.size, 2, none⟩ = some (.slice Dx1 r1.m dx1) ∧ Below w4.heap.size w4 w')
    (first | exact ⟨l1_0, l1_1, l1_2, x1_0, x1_1, x1_2, Below.refl _ _⟩ | exact ⟨l1_0, l1_1, l1_2, x1_0, x1_1, x1_2, (Below.refl _ _).drew⟩ | assumption)
    (first
      | (go_at_call 30; obtain ⟨q0, q1, q2, q3, q4, q5, hb7⟩ : _ ∧ _ ∧ _ ∧ _ ∧ _ ∧ _ ∧ Below w4.heap.size w4 _ := by assumption
         refine (toReach r1 B1 D1 b1 d1 _ hn1 hm1 (HSP1.out.below (HB4.out.trans (hb7.mono HB4.out.size))) (HSI1.out.below (HB4.out.trans (hb7.mono HB4.out.size)))).mono ?_
         rintro en w' ⟨⟨Be1, be1, De1, de1, ge1, he1, rfl, _, hoe1⟩, hb'⟩
         have HOE := vl hoe1
         have S0 := And.intro ((hb'.cell (cell_lt' q0)).trans q0) (And.intro ((hb'.cell (cell_lt' q1)).trans q1) (And.intro ((hb'.cell (cell_lt' q2)).trans q2) (And.intro ((hb'.cell (cell_lt' q3)).trans q3) (And.intro ((hb'.cell (cell_lt' q4)).trans q4) (And.intro ((hb'.cell (cell_lt' q5)).trans q5) (hb7.trans (hb'.mono hb7.size)))))))
         clear hb' hoe1)
      | (go_at_call 31; obtain ⟨q0, q1, q2, q3, q4, q5, hb7⟩ : _ ∧ _ ∧ _ ∧ _ ∧ _ ∧ _ ∧ Below w4.heap.size w4 _ := by assumption
         refine (eqReach r1 _ _ _ _ _ _ _ _ _ hn1 hm1 (HO1_4.out.below hb7) HOE.out).mono ?_
         rintro en w' ⟨rfl, hb'⟩
         have S1 := And.intro ((hb'.cell (cell_lt' q0)).trans q0) (And.intro ((hb'.cell (cell_lt' q1)).trans q1) (And.intro ((hb'.cell (cell_lt' q2)).trans q2) (And.intro ((hb'.cell (cell_lt' q3)).trans q3) (And.intro ((hb'.cell (cell_lt' q4)).trans q4) (And.intro ((hb'.cell (cell_lt' q5)).trans q5) (hb7.trans (hb'.mono hb7.size)))))))
         clear hb'))
  all_goals
    obtain ⟨q0, q1, q2, q3, q4, q5, hb9⟩ : _ ∧ _ ∧ _ ∧ _ ∧ _ ∧ _ ∧ Below w4.heap.size w4 _ := by assumption
    go_wp2
    go_ret
    exact ⟨rfl, HB4.out.trans (hb9.mono HB4.out.size)⟩

theorem parOk : Try.f5.params.toList.all (fun t => Try.prog.readableRec t && decide (t < Try.prog.types.size)) = true := by kernel_rfl
set_option maxRecDepth 100000 in
theorem lifted (os : Os) (started : os.Started) (H : Type) (enc : TypeId × Value → H) :
    ReturnsInHanded {} Try.checked os 5 .any (Rows.fnExactDepthInSpec.pre6 enc Try.prog Try.f5 Rows.fnExactDepthInRow.domain false) (Rows.fnExactDepthInSpec.post enc Try.prog Try.f5 false true false false) := by
  refine law_lifted (C := Try.checked) own started (by kernel_rfl) Try.func5 laid (fun t ht => by
      have h := List.all_eq_true.1 parOk t ht
      rw [Bool.and_eq_true] at h
      exact ⟨h.1, of_decide_eq_true h.2⟩) rfl Try.underlying4 rfl
    (fun xs hx => by
      rw [show Try.f5.params.toList.length = 2 from by rw [Try.params5]; rfl] at hx
      match xs, hx with
      | [d0, d1], _ => rfl)
    (ChangeSpec.witness6 (enc := enc) (C := Try.checked) false ⟨#[], #[.agg #[.int .i64 0, .int .i64 0], .agg #[.slice none 0 0, .int .i64 0, .slice none 0 0]], []⟩ 8 (by kernel_rfl) (by kernel_rfl) (by kernel_rfl) (by kernel_rfl)) ?_
  intro W base args ds p hval0 hA0 _
  have hval : ∀ (j : Nat) t v, Try.f5.params[j]? = some t → args[j]? = some v → Value.okWide Try.prog W .any base t v := hval0
  have hA : DataW.TrodAll enc Try.prog W 0 (fun _ => true) true Try.f5.params.toList args.toList ds p := hA0
  clear hA0 hval0
  rw [Try.params5] at hA hval
  obtain ⟨v0, vs0, d0, ds0, p0, q0, hargs, rfl, rfl, h0, r0⟩ := trodAll_cons hA
  obtain ⟨v1, vs1, d1, ds1, p1, q1, rfl, rfl, rfl, h1, r1⟩ := trodAll_cons r0
  obtain ⟨rfl, rfl, rfl⟩ := trodAll_nil r1
  obtain rfl : args = #[v0, v1] := by cases args; simp_all
  obtain ⟨Y0, rfl⟩ := open_way (hval 0 50 _ rfl rfl) h0
  obtain ⟨rc1, A1, D1, c1, e1, rfl, x1⟩ := open_reach (hval 1 56 _ rfl rfl) h1
  exact walk Y0 rc1 A1 D1 c1 e1 W x1

/-- The statement. -/
theorem proved : Rows.FnExactDepthInSaid :=
  OpenClaim.holds_of_wide 5 Try.f5 rfl rfl rfl rfl rfl rfl rfl ⟨rfl, rfl, rfl, rfl, rfl⟩ rfl rfl rfl rfl rfl (by kernel_rfl) Try.func5 (by kernel_rfl)
    (of_decide_eq_true (by kernel_rfl)) (by unfold Func.isWrapper; first | (rw [if_pos (by decide +kernel)]; kernel_rfl) | (rw [if_neg (by decide +kernel)]; exact ⟨rfl, rfl⟩))
    (fun os started H enc _ => lifted os started H enc)
#print axioms proved
end Go.Proofs.Ytmabaibpdjmckaa.fnExactDepthIn
