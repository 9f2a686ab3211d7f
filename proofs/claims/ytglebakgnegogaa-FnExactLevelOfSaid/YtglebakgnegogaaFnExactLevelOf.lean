/-
  For every input the Go function 'laws.FnExactLevelOf' returns true, and each argument reads afterwards as it read before. No further condition.
-/
import Derived.Test.YtglebakgnegogaaRchL
import Derived.Test.YtglebakgnegogaaOpenR
import Derived.Deep.RegionHeld3
import Derived.Test.YtglebakgnegogaaLift
import Derived.Test.YtglebakgnegogaaOpen
import Derived.ChangeMaps5
namespace Go.Proofs.Ytglebakgnegogaa.fnExactLevelOf
open Go.Proofs.Ytglebakgnegogaa.C1 Go.Proofs.Ytglebakgnegogaa.Lift Go.Proofs.Ytglebakgnegogaa.Opened
open Go.ChangeShapes Go.WideShapes Go.ChangeAt Go.RowKit Go.ChangeMaps
set_option linter.unusedVariables false

set_option maxHeartbeats 2000000 in
theorem walk (r : Rc) (A D : Option Addr) (c d : Nat) (w : World) (ha : ArgR w r A D) :
    Calls Try.prog 8 #[.agg #[.slice A r.n c, .int .i64 r.v, .slice D r.m d]] w fun e w' => e = .returned (.bool true) ∧ Below w.heap.size w w' := by
  obtain ⟨n1, m1, v0, v1, hp, hd⟩ := ha
  have HP := Lib.hid hp
  have HD := Lib.hid hd
  clear hp hd
  by_cases hbig : 1048576 < r.n + r.m
  · go_enter Try.func8, Try.ntmps8
    go_wp2_with fail
    refine (szReach_no _ _ _ _ _ _ _ _ _ (by omega) (by omega) n1 m1 (by omega)).mono ?_
    rintro e w1 ⟨rfl, hb1⟩
    have HB1 := Lib.hid (((Below.refl w.heap.size w).alloc (Nat.le_refl _) _).trans (hb1.mono (by simp)))
    clear hb1
    go_wp2
    go_ret
    exact ⟨rfl, HB1.out⟩
  have hn : r.n ≤ 1048576 := by omega
  have hm : r.m ≤ 1048576 := by omega
  have hs : (r.n : Int) + r.m ≤ 1048576 := by omega
  clear hbig
  go_enter Try.func8, Try.ntmps8
  go_wp2_with fail
  refine (szReach_yes _ _ _ _ _ _ _ _ _ (by omega) (by omega) hs).mono ?_
  rintro e w1 ⟨rfl, hb1⟩
  have HB1 := Lib.hid (((Below.refl w.heap.size w).alloc (Nat.le_refl _) _).trans (hb1.mono (by simp)))
  have HX1 := Lib.hid ((Box.new w (.slice A r.n c) (.int .i64 r.v) (.slice D r.m d) 49).below hb1)
  clear hb1
  obtain ⟨x0, x1, x2⟩ := HX1.out.at
  go_wp2_with fail
  refine (toReach r _ _ _ _ _ hn hm (HP.out.below HB1.out) (HD.out.below HB1.out)).mono ?_
  rintro e w2 ⟨⟨A2, c2, D2, d2, g1, g2, rfl, ho2⟩, hb2⟩
  have HB2 := Lib.hid (HB1.out.trans (hb2.mono HB1.out.size))
  have HX2 := Lib.hid (HX1.out.below hb2)
  have HO2 := Lib.hid ho2
  clear hb2 ho2 x0 x1 x2
  go_wp2_with fail
  refine (level_spec r _ _ _ _ _ hn hm HO2.out.pts HO2.out.ints).mono ?_
  rintro e w3 ⟨rfl, hb3⟩
  have HB3 := Lib.hid (HB2.out.trans (hb3.mono HB2.out.size))
  have HX3 := Lib.hid (HX2.out.below hb3)
  clear hb3 HO2
  obtain ⟨x0, x1, x2⟩ := HX3.out.at
  go_wp2_with fail
  refine (toReach r _ _ _ _ _ hn hm (HP.out.below HB3.out) (HD.out.below HB3.out)).mono ?_
  rintro e w4 ⟨⟨A4, c4, D4, d4, g3, g4, rfl, ho4⟩, hb4⟩
  have HB4 := Lib.hid (HB3.out.trans (hb4.mono HB3.out.size))
  have HX4 := Lib.hid (HX3.out.below hb4)
  have HO4 := Lib.hid ho4
  clear hb4 ho4 x0 x1 x2
  go_wp2_with fail
  refine (level_impl r _ _ _ _ _ hn hm (HO4.out.pts.alloc _) (HO4.out.ints.alloc _)).mono ?_
  rintro e w5 ⟨rfl, hb5⟩
  have hb5' := ((Below.refl w4.heap.size w4).alloc (Nat.le_refl _) (.cells #[.slice A4 r.n c4, .int .i64 r.v, .slice D4 r.m d4] 29)).trans (hb5.mono (by simp))
  have HB5 := Lib.hid (HB4.out.trans (hb5'.mono HB4.out.size))
  have HX5 := Lib.hid (HX4.out.below hb5')
  have HO5 := Lib.hid (HO4.out.below hb5')
  have HG5 := Lib.hid ((Box.new w4 (.slice A4 r.n c4) (.int .i64 r.v) (.slice D4 r.m d4) 29).below hb5)
  clear hb5 hb5' HO4 HX1 HX2 HX3 HX4
  obtain ⟨x0, x1, x2⟩ := HX5.out.at
  obtain ⟨y0, y1, y2⟩ := HG5.out.at
  go_wp2
  go_region_held3 (fun w' => w'.cell? ⟨w.heap.size, 0, none⟩ = some (.slice A r.n c) ∧ w'.cell? ⟨w.heap.size, 1, none⟩ = some (.int .i64 r.v) ∧ w'.cell? ⟨w.heap.size, 2, none⟩ = some (.slice D r.m d) ∧
      w'.cell? ⟨w4.heap.size, 0, none⟩ = some (.slice A4 r.n c4) ∧ w'.cell? ⟨w4.heap.size, 1, none⟩ = some (.int .i64 r.v) ∧ w'.cell? ⟨w4.heap.size, 2, none⟩ = some (.slice D4 r.m d4) ∧ Below w5.heap.size w5 w')
    (first | exact ⟨x0, x1, x2, y0, y1, y2, Below.refl _ _⟩ | exact ⟨x0, x1, x2, y0, y1, y2, (Below.refl _ _).drew⟩ | assumption)
    (first
      | (go_at_call 35; obtain ⟨a0, a1, a2, a3, a4, a5, hb7⟩ : _ ∧ _ ∧ _ ∧ _ ∧ _ ∧ _ ∧ Below w5.heap.size w5 _ := by assumption
         refine (toReach r _ _ _ _ _ hn hm (HP.out.below (HB5.out.trans (hb7.mono HB5.out.size))) (HD.out.below (HB5.out.trans (hb7.mono HB5.out.size)))).mono ?_
         rintro e w' ⟨⟨A6, c6, D6, d6, g5, g6, rfl, ho6⟩, hb'⟩
         have HO6 := Lib.hid ho6
         have S1 := And.intro ((hb'.cell (cell_lt' a0)).trans a0) (And.intro ((hb'.cell (cell_lt' a1)).trans a1) (And.intro ((hb'.cell (cell_lt' a2)).trans a2) (And.intro ((hb'.cell (cell_lt' a3)).trans a3) (And.intro ((hb'.cell (cell_lt' a4)).trans a4) (And.intro ((hb'.cell (cell_lt' a5)).trans a5) (hb7.trans (hb'.mono hb7.size)))))))
         clear ho6 hb')
      | (go_at_call 36; obtain ⟨a0, a1, a2, a3, a4, a5, hb7⟩ : _ ∧ _ ∧ _ ∧ _ ∧ _ ∧ _ ∧ Below w5.heap.size w5 _ := by assumption
         refine (eqReach r _ _ _ _ _ _ _ _ _ hn hm (HO5.out.below hb7) HO6.out).mono ?_
         rintro e w' ⟨rfl, hb'⟩
         have S1 := And.intro ((hb'.cell (cell_lt' a0)).trans a0) (And.intro ((hb'.cell (cell_lt' a1)).trans a1) (And.intro ((hb'.cell (cell_lt' a2)).trans a2) (And.intro ((hb'.cell (cell_lt' a3)).trans a3) (And.intro ((hb'.cell (cell_lt' a4)).trans a4) (And.intro ((hb'.cell (cell_lt' a5)).trans a5) (hb7.trans (hb'.mono hb7.size)))))))
         clear hb'))
  all_goals
    obtain ⟨_, _, _, _, _, _, hb9⟩ : _ ∧ _ ∧ _ ∧ _ ∧ _ ∧ _ ∧ Below w5.heap.size w5 _ := by assumption
    go_wp2
    go_ret
    exact ⟨rfl, HB5.out.trans (hb9.mono HB5.out.size)⟩

theorem own : ownKnob Try.prog.godebug = none := by kernel_rfl
theorem laid : laidOutB Try.prog = true := by kernel_rfl
theorem parOk : Try.f8.params.toList.all (fun t => Try.prog.readableRec t && decide (t < Try.prog.types.size)) = true := by kernel_rfl
set_option maxRecDepth 100000 in
theorem lifted (os : Os) (started : os.Started) (H : Type) (enc : TypeId × Value → H) :
    ReturnsInHanded {} Try.checked os 8 .any (Rows.fnExactLevelOfSpec.pre6 enc Try.prog Try.f8 Rows.fnExactLevelOfRow.domain false) (Rows.fnExactLevelOfSpec.post enc Try.prog Try.f8 false true false false) := by
  refine law_lifted (C := Try.checked) own started (by kernel_rfl) Try.func8 laid (fun t ht => by
      have h := List.all_eq_true.1 parOk t ht
      rw [Bool.and_eq_true] at h
      exact ⟨h.1, of_decide_eq_true h.2⟩) rfl Try.underlying4 rfl
    (fun xs hx => by
      rw [show Try.f8.params.toList.length = 1 from by rw [Try.params8]; rfl] at hx
      match xs, hx with
      | [d0], _ => rfl)
    (ChangeSpec.witness6 (enc := enc) (C := Try.checked) false ⟨#[], #[.agg #[.slice none 0 0, .int .i64 0, .slice none 0 0]], []⟩ 8 (by kernel_rfl) (by kernel_rfl) (by kernel_rfl) (by kernel_rfl)) ?_
  intro W base args ds p hval0 hA0 _
  have hval : ∀ (j : Nat) t v, Try.f8.params[j]? = some t → args[j]? = some v → Value.okWide Try.prog W .any base t v := hval0
  have hA : DataW.TrodAll enc Try.prog W 0 (fun _ => true) true Try.f8.params.toList args.toList ds p := hA0
  clear hA0 hval0
  rw [Try.params8] at hA hval
  obtain ⟨v0, vs0, d0, ds0, p0, q0, hargs, rfl, rfl, h0, r0⟩ := trodAll_cons hA
  obtain ⟨rfl, rfl, rfl⟩ := trodAll_nil r0
  obtain rfl : args = #[v0] := by cases args; simp_all
  obtain ⟨r0, A0, D0, c0, e0, rfl, x0⟩ := open_reach (hval 0 49 _ rfl rfl) h0
  exact walk r0 A0 D0 c0 e0 W x0

/-- The statement. -/
theorem proved : Rows.FnExactLevelOfSaid :=
  OpenClaim.holds_of_wide 8 Try.f8 rfl rfl rfl rfl rfl rfl rfl ⟨rfl, rfl, rfl, rfl, rfl⟩ rfl rfl rfl rfl rfl (by kernel_rfl) Try.func8 (by kernel_rfl)
    (of_decide_eq_true (by kernel_rfl)) (by unfold Func.isWrapper; first | (rw [if_pos (by decide +kernel)]; kernel_rfl) | (rw [if_neg (by decide +kernel)]; exact ⟨rfl, rfl⟩))
    (fun os started H enc _ => lifted os started H enc)
#print axioms proved
end Go.Proofs.Ytglebakgnegogaa.fnExactLevelOf
