/-
  For every input the Go function 'laws.FnExactIdsOf' returns true, and each argument reads afterwards as it read before. No further condition.
-/
import Derived.Test.YtmfeleocjmdooaaTrId
import Derived.Test.YtmfeleocjmdooaaTrnK
import Derived.Test.YtmfeleocjmdooaaTrnE
import Derived.Test.YtmfeleocjmdooaaOpenT
import Derived.Test.YtmfeleocjmdooaaTrLw
import Derived.Test.YtmfeleocjmdooaaLift
import Derived.Test.YtmfeleocjmdooaaIo
import Derived.Test.YtmfeleocjmdooaaOpen
import Derived.ChangeMaps5
namespace Go.Proofs.Ytmfeleocjmdooaa.fnExactIdsOf
open Go.Proofs.Ytmfeleocjmdooaa.C1 Go.Proofs.Ytmfeleocjmdooaa.Lift Go.Proofs.Ytmfeleocjmdooaa.Opened
open Go.ChangeShapes Go.WideShapes Go.ChangeAt Go.RowKit Go.ChangeMaps
set_option linter.unusedVariables false

set_option maxRecDepth 100000 in
set_option maxHeartbeats 2000000 in
theorem walk (up : Bool) (A : Option Addr) (c : Nat) (T : List (List Bt)) (w : World) (ht : ArgT w A T) :
    Calls Try.prog 9 #[.agg #[.bool up, .slice A T.length c]] w fun e w' => e = .returned (.bool true) ∧ Below w.heap.size w w' := by
  have HT := vl ht
  have HB0 := vl ((Below.refl w.heap.size w).alloc (Nat.le_refl _) (.cells #[.bool up, .slice A T.length c] 58))
  have HX0 := vl (TBox.new w up A T.length c 58)
  have HT0 := vl (show ArgT (w.alloc (.cells #[.bool up, .slice A T.length c] 58)) A T from ⟨ht.len, ht.row, ht.src.below HB0.out⟩)
  obtain ⟨x0, x1⟩ := HX0.out
  clear ht
  by_cases hbig : (1048576 : Int) < (szT T : Int)
  · go_enter Try.func9, Try.ntmps9
    go_wp2_with fail
    refine (szTrain_no up A c T _ _ (by omega) (by omega) HT0.out hbig).mono ?_
    rintro e w1 ⟨rfl, hb1⟩
    have HB1 := vl (HB0.out.trans (hb1.mono HB0.out.size))
    clear hb1
    go_wp2
    go_ret
    exact ⟨rfl, HB1.out⟩
  have hsz : (szT T : Int) ≤ 1048576 := by omega
  have HM := vl (mod_of hsz)
  have hn := HM.out.rows
  have HR := vl (fun r (hr : r ∈ T) => HM.out.row hr)
  clear hbig
  go_enter Try.func9, Try.ntmps9
  go_wp2_with fail
  refine (szTrain_yes up A c T _ _ (by omega) HT0.out hsz).mono ?_
  rintro e w1 ⟨rfl, hb1⟩
  have HB1 := vl (HB0.out.trans (hb1.mono HB0.out.size))
  have HX1 := vl (HX0.out.below hb1)
  clear hb1 x0 x1
  obtain ⟨x0, x1⟩ := HX1.out
  go_wp2_with fail
  refine (toTrain up A c T _ hn HR.out (HT.out.src.below HB1.out)).mono ?_
  rintro e w2 ⟨⟨A2, c2, g2, G2, rfl, _, ho2⟩, hb2⟩
  have HB2 := vl (HB1.out.trans (hb2.mono HB1.out.size))
  have HX2 := vl (HX1.out.below hb2)
  have HP2 := vl ho2.trn
  clear hb2 ho2 x0 x1
  go_wp2_with fail
  refine (idsof_spec up A2 c2 T _ HM.out HP2.out).mono ?_
  rintro e w3 ⟨⟨A3, c3, gS, rfl, hr3, _, hg3, hl3⟩, hb3⟩
  have hid := idN_le T
  have HB3 := vl (HB2.out.trans (hb3.mono HB2.out.size))
  have HX3 := vl (HX2.out.below hb3)
  have HS3 := vl hr3
  have h3 := HX3.out.lt
  have HL3 := vl (show 0 < idN T → w.heap.size ≤ gS ∧ gS < w3.heap.size from fun h => ⟨by have := HB2.out.size; omega, hl3 h⟩)
  clear hb3 hr3 hg3 hl3
  obtain ⟨x0, x1⟩ := HX3.out
  go_wp2_with fail
  refine (toTrain up A c T _ hn HR.out (HT.out.src.below HB3.out)).mono ?_
  rintro e w4 ⟨⟨A4, c4, g4, G4, rfl, _, ho4⟩, hb4⟩
  have h34 := hb4.size
  have HB4 := vl (HB3.out.trans (hb4.mono HB3.out.size))
  have HX4 := vl (HX3.out.below hb4)
  have HS4 := vl (HS3.out.below hb4)
  clear hb4 x0 x1
  have hba := (Below.refl w4.heap.size w4).alloc (Nat.le_refl _) (.cells #[.bool up, .slice A4 T.length c4] 26)
  have HB4a := vl (HB4.out.alloc HB4.out.size (.cells #[.bool up, .slice A4 T.length c4] 26))
  have HX4a := vl (HX4.out.below hba)
  have HS4a := vl (HS4.out.below hba)
  have HO4a := vl (ho4.below hba)
  have HY4 := vl (TBox.new w4 up A4 T.length c4 26)
  clear hba ho4
  obtain ⟨x0, x1⟩ := HX4a.out
  obtain ⟨y0, y1⟩ := HY4.out
  go_wp2_with fail
  refine (idsof_impl up A4 c4 T _ HM.out HO4a.out.trn).mono ?_
  rintro e w5 ⟨⟨A5, c5, gI, rfl, hr5, hf5, hg5, hl5⟩, hb5⟩
  simp only [World.size_alloc] at hg5
  have h45 : w4.heap.size < w5.heap.size := by have := hb5.size; simp at this; omega
  have HB5 := vl (HB4a.out.trans (hb5.mono HB4a.out.size))
  have HX5 := vl (HX4a.out.below hb5)
  have HY5 := vl (HY4.out.below hb5)
  have HO5 := vl (HO4a.out.below hb5)
  have HS5 := vl (HS4a.out.below hb5)
  have HI5 := vl hr5
  have HF5 := vl hf5
  have HL5 := vl hl5
  clear hb5 hr5 hf5 hl5 x0 x1 y0 y1
  go_wp2_with fail
  refine (eqIntS _ _ _ _ _ _ _ _ (by omega) _ HI5.out HS5.out).mono ?_
  rintro e w6 ⟨rfl, hb6⟩
  have HB6 := vl (HB5.out.trans (hb6.mono HB5.out.size))
  have HX6 := vl (HX5.out.below hb6)
  have HY6 := vl (HY5.out.below hb6)
  have HO6 := vl (HO5.out.below hb6)
  have HS6 := vl (HS5.out.below hb6)
  have HI6 := vl (HI5.out.below hb6)
  have HF6 := vl (HF5.out.below HL5.out hb6)
  have h56 := hb6.size
  clear hb6
  obtain ⟨x0, x1⟩ := HX6.out
  obtain ⟨y0, y1⟩ := HY6.out
  go_wp2
  go_region_held3 (fun w' => w'.cell? ⟨w.heap.size, 0, none⟩ = some (.bool up) ∧ w'.cell? ⟨w.heap.size, 1, none⟩ = some (.slice A T.length c) ∧ w'.cell? ⟨w4.heap.size, 0, none⟩ = some (.bool up) ∧ w'.cell? ⟨w4.heap.size, 1, none⟩ = some (.slice A4 T.length c4) ∧ Below w6.heap.size w6 w')
    (first | exact ⟨x0, x1, y0, y1, Below.refl _ _⟩ | exact ⟨x0, x1, y0, y1, (Below.refl _ _).drew⟩ | assumption)
    (first
      | (go_at_call 53; obtain ⟨a0, a1, a2, a3, hb7⟩ : _ ∧ _ ∧ _ ∧ _ ∧ Below w6.heap.size w6 _ := by assumption
         refine (toTrain up A c T _ hn HR.out (HT.out.src.below (HB6.out.trans (hb7.mono HB6.out.size)))).mono ?_
         rintro e w' ⟨⟨A7, c7, g7, G7, rfl, _, ho7⟩, hb'⟩
         have HO7 := vl ho7.trn
         have S1 := And.intro ((hb'.cell (cell_lt' a0)).trans a0) (And.intro ((hb'.cell (cell_lt' a1)).trans a1) (And.intro ((hb'.cell (cell_lt' a2)).trans a2) (And.intro ((hb'.cell (cell_lt' a3)).trans a3) (hb7.trans (hb'.mono hb7.size)))))
         clear ho7 hb')
      | (go_at_call 54; obtain ⟨a0, a1, a2, a3, hb7⟩ : _ ∧ _ ∧ _ ∧ _ ∧ Below w6.heap.size w6 _ := by assumption
         refine (eqTrain up _ _ _ _ T _ hn HR.out (HO6.out.trn.below hb7) HO7.out).mono ?_
         rintro e w' ⟨rfl, hb'⟩
         have S1 := And.intro ((hb'.cell (cell_lt' a0)).trans a0) (And.intro ((hb'.cell (cell_lt' a1)).trans a1) (And.intro ((hb'.cell (cell_lt' a2)).trans a2) (And.intro ((hb'.cell (cell_lt' a3)).trans a3) (hb7.trans (hb'.mono hb7.size)))))
         clear hb'))
  obtain ⟨z0, z1, z2, z3, hb7⟩ : _ ∧ _ ∧ _ ∧ _ ∧ Below w6.heap.size w6 _ := by assumption
  obtain ⟨w7, hw7⟩ : ∃ w7, w7 = w' := ⟨_, rfl⟩
  rw [← hw7] at z0 z1 z2 z3 hb7 ⊢
  have HB7 := vl (HB6.out.trans (hb7.mono HB6.out.size))
  have HX7 := vl (show TBox w7 w.heap.size up A T.length c from ⟨z0, z1⟩)
  have HY7 := vl (show TBox w7 w4.heap.size up A4 T.length c4 from ⟨z2, z3⟩)
  have HO7 := vl (HO6.out.below hb7)
  have HS7 := vl (HS6.out.below hb7)
  have HI7 := vl (HI6.out.below hb7)
  have HF7 := vl (HF6.out.below (fun h => HI6.out.lt h) hb7)
  have h67 := hb7.size
  clear hb7 z0 z1 z2 z3 S1 hw7 x0 x1 y0 y1
  obtain ⟨y0, y1⟩ := HY7.out
  go_wp2_with fail
  refine (markTrain up A4 c4 1 T _ HM.out (by omega) HO7.out (by omega)).mono ?_
  rintro e w8 ⟨rfl, _, ht8⟩
  have HB8 := vl (ht8.below HB7.out (by omega))
  have HX8 := vl (HX7.out.touch ht8 (Or.inl h3))
  have HS8 := vl (ht8.rowI HS7.out (fun h => Or.inl (HL3.out h).2))
  have HI8 := vl (ht8.rowI HI7.out (fun h => Or.inr (by omega)))
  have HF8 := vl (ht8.free HF7.out (fun h => HI7.out.lt h) (fun h => Or.inr (by omega)))
  have h78 := ht8.size
  clear ht8 y0 y1
  go_wp2_with fail
  refine (eqIntS _ _ _ _ _ _ _ _ (by omega) _ HI8.out HS8.out).mono ?_
  rintro e w9 ⟨rfl, hb9⟩
  have HB9 := vl (HB8.out.trans (hb9.mono HB8.out.size))
  have HX9 := vl (HX8.out.below hb9)
  have HS9 := vl (HS8.out.below hb9)
  have HI9 := vl (HI8.out.below hb9)
  have HF9 := vl (HF8.out.below (fun h => HI8.out.lt h) hb9)
  clear hb9
  go_wp2_with fail
  refine (markI _ _ _ gI 1 _ _ (by omega) (by omega) HI9.out HF9.out).mono ?_
  rintro e w10 ⟨rfl, hr10, _, ht10⟩
  have h24 := HB9.out.size
  have ht := ht10 (w4.heap.size + 1) (gI + 1) (fun _ => ⟨hg5, Nat.lt_succ_self _⟩)
  have HB10 := vl (ht.below HB9.out (by omega))
  have HX10 := vl (HX9.out.touch ht (Or.inl (by omega)))
  have HS10 := vl (ht.rowI HS9.out (fun h => Or.inl (by have := (HL3.out h).2; omega)))
  have HI10 := vl hr10
  clear ht10 hr10 ht
  go_wp2_with fail
  refine (heldIntS _ _ _ _ 1 _ (by omega) (by omega) HI10.out).mono ?_
  rintro e w11 ⟨rfl, hb11⟩
  have HB11 := vl (HB10.out.trans (hb11.mono HB10.out.size))
  have HX11 := vl (HX10.out.below hb11)
  have HS11 := vl (HS10.out.below hb11)
  have HI11 := vl (HI10.out.below hb11)
  clear hb11
  obtain ⟨x0, x1⟩ := HX11.out
  go_wp2_with fail
  refine (toTrain up A c T _ hn HR.out (HT.out.src.below HB11.out)).mono ?_
  rintro e w12 ⟨⟨A12, c12, g12, G12, rfl, _, ho12⟩, hb12⟩
  have HB12 := vl (HB11.out.trans (hb12.mono HB11.out.size))
  have HS12 := vl (HS11.out.below hb12)
  have HI12 := vl (HI11.out.below hb12)
  have HP12 := vl ho12.trn
  clear hb12 ho12 x0 x1
  go_wp2_with fail
  refine (idsof_impl up A12 c12 T _ HM.out HP12.out).mono ?_
  rintro e w13 ⟨⟨A13, c13, g13, rfl, hr13, _, _, _⟩, hb13⟩
  have HB13 := vl (HB12.out.trans (hb13.mono HB12.out.size))
  have HS13 := vl (HS12.out.below hb13)
  have HI13 := vl (HI12.out.below hb13)
  have HJ13 := vl hr13
  clear hb13 hr13
  go_wp2_with fail
  refine (eqIntS _ _ _ _ _ _ _ _ (by omega) _ HJ13.out HS13.out).mono ?_
  rintro e w14 ⟨rfl, hb14⟩
  have HB14 := vl (HB13.out.trans (hb14.mono HB13.out.size))
  have HI14 := vl (HI13.out.below hb14)
  clear hb14
  go_wp2_with fail
  refine (heldIntS _ _ _ _ 1 _ (by omega) (by omega) HI14.out).mono ?_
  rintro e w15 ⟨rfl, hb15⟩
  have HB15 := vl (HB14.out.trans (hb15.mono HB14.out.size))
  clear hb15
  go_wp2
  go_ret
  exact ⟨rfl, HB15.out⟩

theorem parOk : Try.f9.params.toList.all (fun t => Try.prog.readableRec t && decide (t < Try.prog.types.size)) = true := by kernel_rfl
set_option maxRecDepth 100000 in
theorem lifted (os : Os) (started : os.Started) (H : Type) (enc : TypeId × Value → H) :
    ReturnsInHanded {} Try.checked os 9 .any (Rows.fnExactIdsOfSpec.pre6 enc Try.prog Try.f9 Rows.fnExactIdsOfRow.domain false) (Rows.fnExactIdsOfSpec.post enc Try.prog Try.f9 false true false false) := by
  refine law_lifted (C := Try.checked) own started (by kernel_rfl) Try.func9 laid (fun t ht => by
      have h := List.all_eq_true.1 parOk t ht
      rw [Bool.and_eq_true] at h
      exact ⟨h.1, of_decide_eq_true h.2⟩) rfl Try.underlying4 rfl
    (fun xs hx => by
      rw [show Try.f9.params.toList.length = 1 from by rw [Try.params9]; rfl] at hx
      match xs, hx with
      | [d0], _ => rfl)
    (ChangeSpec.witness6 (enc := enc) (C := Try.checked) false ⟨#[], #[.agg #[.bool false, .slice none 0 0]], []⟩ 8 (by kernel_rfl) (by kernel_rfl) (by kernel_rfl) (by kernel_rfl)) ?_
  intro W base args ds p hval0 hA0 _
  have hval : ∀ (j : Nat) t v, Try.f9.params[j]? = some t → args[j]? = some v → Value.okWide Try.prog W .any base t v := hval0
  have hA : DataW.TrodAll enc Try.prog W 0 (fun _ => true) true Try.f9.params.toList args.toList ds p := hA0
  clear hA0 hval0
  rw [Try.params9] at hA hval
  obtain ⟨v0, vs0, d0, ds0, p0, q0, hargs, rfl, rfl, h0, r0⟩ := trodAll_cons hA
  obtain ⟨rfl, rfl, rfl⟩ := trodAll_nil r0
  obtain rfl : args = #[v0] := by cases args; simp_all
  obtain ⟨up0, A0, c0, T0, rfl, x0⟩ := open_train (hval 0 58 _ rfl rfl) h0
  exact walk up0 A0 c0 T0 W x0

/-- The statement. -/
theorem proved : Rows.FnExactIdsOfSaid :=
  OpenClaim.holds_of_wide 9 Try.f9 rfl rfl rfl rfl rfl rfl rfl ⟨rfl, rfl, rfl, rfl, rfl⟩ rfl rfl rfl rfl rfl (by kernel_rfl) Try.func9 (by show joinedFacts Try.prog _ _ _ _ = true; unfold joinedFacts; rw [Io.mayEnter, Io.liftsFinal, Io.make]; kernel_rfl)
    (of_decide_eq_true (by kernel_rfl)) (by unfold Func.isWrapper; first | (rw [if_pos (by decide +kernel)]; kernel_rfl) | (rw [if_neg (by decide +kernel)]; exact ⟨rfl, rfl⟩))
    (fun os started H enc _ => lifted os started H enc)
#print axioms proved
end Go.Proofs.Ytmfeleocjmdooaa.fnExactIdsOf
