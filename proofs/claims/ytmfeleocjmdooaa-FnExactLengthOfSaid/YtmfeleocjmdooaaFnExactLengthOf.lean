/-
  For every input the Go function 'laws.FnExactLengthOf' returns true, and each argument reads afterwards as it read before. No further condition.
-/
import Derived.Test.YtmfeleocjmdooaaTrI5
import Derived.Test.YtmfeleocjmdooaaTrnV
import Derived.Test.YtmfeleocjmdooaaTrnE
import Derived.Test.YtmfeleocjmdooaaOpenT
import Derived.Test.YtmfeleocjmdooaaTrLw
import Derived.Test.YtmfeleocjmdooaaLift
import Derived.Test.YtmfeleocjmdooaaIo
import Derived.Test.YtmfeleocjmdooaaOpen
import Derived.ChangeMaps5
namespace Go.Proofs.Ytmfeleocjmdooaa.fnExactLengthOf
open Go.Proofs.Ytmfeleocjmdooaa.C1 Go.Proofs.Ytmfeleocjmdooaa.Lift Go.Proofs.Ytmfeleocjmdooaa.Opened
open Go.ChangeShapes Go.WideShapes Go.ChangeAt Go.RowKit Go.ChangeMaps
set_option linter.unusedVariables false

set_option maxRecDepth 100000 in
set_option maxHeartbeats 2000000 in
theorem walk (up : Bool) (A : Option Addr) (c : Nat) (T : List (List Bt)) (w : World) (ht : ArgT w A T) :
    Calls Try.prog 10 #[.agg #[.bool up, .slice A T.length c]] w fun e w' => e = .returned (.bool true) ∧ Below w.heap.size w w' := by
  have HT := vl ht
  have HB0 := vl ((Below.refl w.heap.size w).alloc (Nat.le_refl _) (.cells #[.bool up, .slice A T.length c] 58))
  have HX0 := vl (TBox.new w up A T.length c 58)
  have HT0 := vl (show ArgT (w.alloc (.cells #[.bool up, .slice A T.length c] 58)) A T from ⟨ht.len, ht.row, ht.src.below HB0.out⟩)
  obtain ⟨x0, x1⟩ := HX0.out
  clear ht
  by_cases hbig : (1048576 : Int) < (szT T : Int)
  · go_enter Try.func10, Try.ntmps10
    go_wp2_with fail
    refine (szTrain_no up A c T _ _ (by omega) (by omega) HT0.out hbig).mono ?_
    rintro e w1 ⟨rfl, hb1⟩
    have HB1 := vl (HB0.out.trans (hb1.mono HB0.out.size))
    clear hb1
    go_wp2
    go_ret
    exact ⟨rfl, HB1.out⟩
  have hsz : (szT T : Int) ≤ 1048576 := by omega
  have HM := vl (mod_of hsz)
  have hn := HM.out.rows
  have HR := vl (fun r (hr : r ∈ T) => HM.out.row hr)
  clear hbig
  go_enter Try.func10, Try.ntmps10
  go_wp2_with fail
  refine (szTrain_yes up A c T _ _ (by omega) HT0.out hsz).mono ?_
  rintro e w1 ⟨rfl, hb1⟩
  have HB1 := vl (HB0.out.trans (hb1.mono HB0.out.size))
  have HX1 := vl (HX0.out.below hb1)
  clear hb1 x0 x1
  obtain ⟨x0, x1⟩ := HX1.out
  go_wp2_with fail
  refine (toTrain up A c T _ hn HR.out (HT.out.src.below HB1.out)).mono ?_
  rintro e w2 ⟨⟨A2, c2, g2, G2, rfl, _, ho2⟩, hb2⟩
  have HB2 := vl (HB1.out.trans (hb2.mono HB1.out.size))
  have HX2 := vl (HX1.out.below hb2)
  have HP2 := vl ho2.trn
  clear hb2 ho2 x0 x1
  go_wp2_with fail
  refine (len_spec up A2 c2 T _ HM.out HP2.out).mono ?_
  rintro e w3 ⟨rfl, hb3⟩
  have HB3 := vl (HB2.out.trans (hb3.mono HB2.out.size))
  have HX3 := vl (HX2.out.below hb3)
  clear hb3
  obtain ⟨x0, x1⟩ := HX3.out
  go_wp2_with fail
  refine (toTrain up A c T _ hn HR.out (HT.out.src.below HB3.out)).mono ?_
  rintro e w4 ⟨⟨A4, c4, g4, G4, rfl, _, ho4⟩, hb4⟩
  have HB4 := vl (HB3.out.trans (hb4.mono HB3.out.size))
  have HX4 := vl (HX3.out.below hb4)
  have HP4 := vl ho4.trn
  clear hb4 ho4 x0 x1
  have HB4a := vl (HB4.out.alloc HB4.out.size (.cells #[.bool up, .slice A4 T.length c4] 26))
  have HX4a := vl (HX4.out.below ((Below.refl w4.heap.size w4).alloc (Nat.le_refl _) (.cells #[.bool up, .slice A4 T.length c4] 26)))
  have HP4a := vl (HP4.out.alloc (.cells #[.bool up, .slice A4 T.length c4] 26))
  have HY4 := vl (TBox.new w4 up A4 T.length c4 26)
  obtain ⟨x0, x1⟩ := HX4a.out
  obtain ⟨y0, y1⟩ := HY4.out
  go_wp2_with fail
  refine (len_impl up A4 c4 T _ HM.out HP4a.out).mono ?_
  rintro e w5 ⟨rfl, hb5⟩
  have HB5 := vl (HB4a.out.trans (hb5.mono HB4a.out.size))
  have HX5 := vl (HX4a.out.below hb5)
  have HY5 := vl (HY4.out.below hb5)
  have HP5 := vl (HP4a.out.below hb5)
  clear hb5 x0 x1 y0 y1
  obtain ⟨x0, x1⟩ := HX5.out
  obtain ⟨y0, y1⟩ := HY5.out
  go_wp2
  go_region_held3 (fun w' => w'.cell? ⟨w.heap.size, 0, none⟩ = some (.bool up) ∧ w'.cell? ⟨w.heap.size, 1, none⟩ = some (.slice A T.length c) ∧ w'.cell? ⟨w4.heap.size, 0, none⟩ = some (.bool up) ∧ w'.cell? ⟨w4.heap.size, 1, none⟩ = some (.slice A4 T.length c4) ∧ Below w5.heap.size w5 w')
    (first | exact ⟨x0, x1, y0, y1, Below.refl _ _⟩ | exact ⟨x0, x1, y0, y1, (Below.refl _ _).drew⟩ | assumption)
    (first
      | (go_at_call 53; obtain ⟨a0, a1, a2, a3, hb7⟩ : _ ∧ _ ∧ _ ∧ _ ∧ Below w5.heap.size w5 _ := by assumption
         refine (toTrain up A c T _ hn HR.out (HT.out.src.below (HB5.out.trans (hb7.mono HB5.out.size)))).mono ?_
         rintro e w' ⟨⟨A6, c6, g6, G6, rfl, _, ho6⟩, hb'⟩
         have HO6 := vl ho6.trn
         have S1 := And.intro ((hb'.cell (cell_lt' a0)).trans a0) (And.intro ((hb'.cell (cell_lt' a1)).trans a1) (And.intro ((hb'.cell (cell_lt' a2)).trans a2) (And.intro ((hb'.cell (cell_lt' a3)).trans a3) (hb7.trans (hb'.mono hb7.size)))))
         clear ho6 hb')
      | (go_at_call 54; obtain ⟨a0, a1, a2, a3, hb7⟩ : _ ∧ _ ∧ _ ∧ _ ∧ Below w5.heap.size w5 _ := by assumption
         refine (eqTrain up _ _ _ _ T _ hn HR.out (HP5.out.below hb7) HO6.out).mono ?_
         rintro e w' ⟨rfl, hb'⟩
         have S1 := And.intro ((hb'.cell (cell_lt' a0)).trans a0) (And.intro ((hb'.cell (cell_lt' a1)).trans a1) (And.intro ((hb'.cell (cell_lt' a2)).trans a2) (And.intro ((hb'.cell (cell_lt' a3)).trans a3) (hb7.trans (hb'.mono hb7.size)))))
         clear hb'))
  all_goals
    obtain ⟨_, _, _, _, hb9⟩ : _ ∧ _ ∧ _ ∧ _ ∧ Below w5.heap.size w5 _ := by assumption
    go_wp2
    go_ret
    exact ⟨rfl, HB5.out.trans (hb9.mono HB5.out.size)⟩

theorem parOk : Try.f10.params.toList.all (fun t => Try.prog.readableRec t && decide (t < Try.prog.types.size)) = true := by kernel_rfl
set_option maxRecDepth 100000 in
theorem lifted (os : Os) (started : os.Started) (H : Type) (enc : TypeId × Value → H) :
    ReturnsInHanded {} Try.checked os 10 .any (Rows.fnExactLengthOfSpec.pre6 enc Try.prog Try.f10 Rows.fnExactLengthOfRow.domain false) (Rows.fnExactLengthOfSpec.post enc Try.prog Try.f10 false true false false) := by
  refine law_lifted (C := Try.checked) own started (by kernel_rfl) Try.func10 laid (fun t ht => by
      have h := List.all_eq_true.1 parOk t ht
      rw [Bool.and_eq_true] at h
      exact ⟨h.1, of_decide_eq_true h.2⟩) rfl Try.underlying4 rfl
    (fun xs hx => by
      rw [show Try.f10.params.toList.length = 1 from by rw [Try.params10]; rfl] at hx
      match xs, hx with
      | [d0], _ => rfl)
    (ChangeSpec.witness6 (enc := enc) (C := Try.checked) false ⟨#[], #[.agg #[.bool false, .slice none 0 0]], []⟩ 8 (by kernel_rfl) (by kernel_rfl) (by kernel_rfl) (by kernel_rfl)) ?_
  intro W base args ds p hval0 hA0 _
  have hval : ∀ (j : Nat) t v, Try.f10.params[j]? = some t → args[j]? = some v → Value.okWide Try.prog W .any base t v := hval0
  have hA : DataW.TrodAll enc Try.prog W 0 (fun _ => true) true Try.f10.params.toList args.toList ds p := hA0
  clear hA0 hval0
  rw [Try.params10] at hA hval
  obtain ⟨v0, vs0, d0, ds0, p0, q0, hargs, rfl, rfl, h0, r0⟩ := trodAll_cons hA
  obtain ⟨rfl, rfl, rfl⟩ := trodAll_nil r0
  obtain rfl : args = #[v0] := by cases args; simp_all
  obtain ⟨up0, A0, c0, T0, rfl, x0⟩ := open_train (hval 0 58 _ rfl rfl) h0
  exact walk up0 A0 c0 T0 W x0

/-- The statement. -/
theorem proved : Rows.FnExactLengthOfSaid :=
  OpenClaim.holds_of_wide 10 Try.f10 rfl rfl rfl rfl rfl rfl rfl ⟨rfl, rfl, rfl, rfl, rfl⟩ rfl rfl rfl rfl rfl (by kernel_rfl) Try.func10 (by show joinedFacts Try.prog _ _ _ _ = true; unfold joinedFacts; rw [Io.mayEnter, Io.liftsFinal, Io.make]; kernel_rfl)
    (of_decide_eq_true (by kernel_rfl)) (by unfold Func.isWrapper; first | (rw [if_pos (by decide +kernel)]; kernel_rfl) | (rw [if_neg (by decide +kernel)]; exact ⟨rfl, rfl⟩))
    (fun os started H enc _ => lifted os started H enc)
#print axioms proved
end Go.Proofs.Ytmfeleocjmdooaa.fnExactLengthOf
