/-
  For every input the Go function 'laws.FnExactReformTrain' returns true, and each argument reads afterwards as it read before. No further condition.
-/
import Derived.Test.YtmfeleocjmdooaaOne
import Derived.Test.YtmfeleocjmdooaaTrnE
import Derived.Test.YtmfeleocjmdooaaOpenT
import Derived.Test.YtmfeleocjmdooaaTrLw
import Derived.Test.YtmfeleocjmdooaaReI
import Derived.Test.YtmfeleocjmdooaaLift
import Derived.Test.YtmfeleocjmdooaaIo
import Derived.Test.YtmfeleocjmdooaaOpen
import Derived.ChangeMaps5
namespace Go.Proofs.Ytmfeleocjmdooaa.fnExactReformTrain
open Go.Proofs.Ytmfeleocjmdooaa.C1 Go.Proofs.Ytmfeleocjmdooaa.Lift Go.Proofs.Ytmfeleocjmdooaa.Opened
open Go.ChangeShapes Go.WideShapes Go.ChangeAt Go.RowKit Go.ChangeMaps
set_option linter.unusedVariables false

set_option maxRecDepth 100000 in
set_option maxHeartbeats 2000000 in
theorem walk (up : Bool) (A : Option Addr) (c : Nat) (T : List (List Bt)) (k : Int) (w : World) (ht : ArgT w A T) (hki : (Lit.int .i64 k).wf = true) :
    Calls Try.prog 17 #[.agg #[.bool up, .slice A T.length c], .int .i64 k] w fun e w' => e = .returned (.bool true) ∧ Below w.heap.size w w' := by
  have HT := vl ht
  have HB0 := vl ((Below.refl w.heap.size w).alloc (Nat.le_refl _) (.cells #[.bool up, .slice A T.length c] 58))
  have HX0 := vl (TBox.new w up A T.length c 58)
  have HT0 := vl (show ArgT (w.alloc (.cells #[.bool up, .slice A T.length c] 58)) A T from ⟨ht.len, ht.row, ht.src.below HB0.out⟩)
  obtain ⟨x0, x1⟩ := HX0.out
  clear ht
  by_cases hbig : (1048576 : Int) < (szT T : Int)
  · go_enter Try.func17, Try.ntmps17
    go_wp2_with fail
    refine (szTrain_no up A c T _ _ (by omega) (by omega) HT0.out hbig).mono ?_
    rintro e w1 ⟨rfl, hb1⟩
    have HB1 := vl (HB0.out.trans (hb1.mono HB0.out.size))
    clear hb1
    go_wp2
    go_ret
    exact ⟨rfl, HB1.out⟩
  have hsz : (szT T : Int) ≤ 1048576 := by omega
  have HM1 := vl (mod_of hsz)
  have hn1 := HM1.out.rows
  have HR1 := vl (fun r (hr : r ∈ T) => HM1.out.row hr)
  clear hbig
  have HM := vl (refT_mod (W := k) HM1.out)
  obtain ⟨u, hu⟩ : ∃ u, u = refU up T k := ⟨_, rfl⟩
  obtain ⟨q, hq⟩ : ∃ q, q = refB T k := ⟨_, rfl⟩
  obtain ⟨S, hS⟩ : ∃ S, S = refT T k := ⟨_, rfl⟩
  have HSp : Veil (∀ A c w, Trn w A T → Calls Try.prog 68 #[.agg #[.bool up, .slice A T.length c], .int .i64 k] w (GivesTB w u S q)) := vl fun A c w hp => by rw [hu, hq, hS]; exact reform_spec up A c T k w HM1.out hp hki
  have HIm : Veil (∀ A c w, Trn w A T → Calls Try.prog 39 #[.agg #[.bool up, .slice A T.length c], .int .i64 k] w (GivesTB w u S q)) := vl fun A c w hp => by rw [hu, hq, hS]; exact reform_impl up A c T k w HM1.out hp hki
  rw [← hS] at HM
  clear hu hq hS
  have hl0 : (0 : Int) ≤ 1048576 - (szT T : Int) := by omega
  go_enter Try.func17, Try.ntmps17
  go_wp2_with fail
  refine (szTrain_yes up A c T _ _ (by omega) HT0.out hsz).mono ?_
  rintro e w1 ⟨rfl, hb1⟩
  have HB1 := vl (HB0.out.trans (hb1.mono HB0.out.size))
  have HX1 := vl (HX0.out.below hb1)
  have h1 := hb1.size
  have hw0 := HX1.out.lt
  clear hb1 x0 x1 HT0 HX0 HB0 hsz
  obtain ⟨x0, x1⟩ := HX1.out
  go_wp2_with fail
  refine (toTrain up A c T _ hn1 HR1.out (HT.out.src.below HB1.out)).mono ?_
  rintro e w2 ⟨⟨A2, c2, g2, G2, rfl, hc2, ho2⟩, hb2⟩
  have h2 := hb2.size
  clear x0 x1
  have HB2 := vl (HB1.out.trans (hb2.mono HB1.out.size))
  have HX2 := vl (HX1.out.below hb2)
  clear hb2 HX1
  have HP2 := vl ho2.trn
  clear ho2
  go_wp2_with fail
  refine (HSp.out _ _ _ HP2.out).mono ?_
  rintro e w3 ⟨⟨A3, c3, g3, G3, rfl, hc3, ho3⟩, hb3⟩
  have h3 := hb3.size
  have HB3 := vl (HB2.out.trans (hb3.mono HB2.out.size))
  have HX3 := vl (HX2.out.below hb3)
  clear hb3 HX2
  clear HP2
  have hba := (Below.refl w3.heap.size w3).alloc (Nat.le_refl _) (.cells #[.bool u, .slice A3 S.length c3] 26)
  have HB3a := vl (HB3.out.trans (hba.mono HB3.out.size))
  have HX3a := vl (HX3.out.below hba)
  have HW3a : Veil (One (w3.alloc (.cells #[.bool u, .slice A3 S.length c3] 26)) w3.heap.size u A3 S.length c3 w2.heap.size w3.heap.size S g3 G3) := vl ⟨TBox.new w3 u A3 S.length c3 26, ho3.below hba⟩
  clear hba ho3 HX3
  generalize hW3 : w3.alloc (.cells #[.bool u, .slice A3 S.length c3] 26) = W3 at HB3a HX3a HW3a
  have s3 : W3.heap.size = w3.heap.size + 1 := by rw [← hW3]; simp
  obtain ⟨x0, x1⟩ := HX3a.out
  go_wp2_with fail
  clear hW3
  refine (toTrain up A c T _ hn1 HR1.out (HT.out.src.below HB3a.out)).mono ?_
  rintro e w4 ⟨⟨A4, c4, g4, G4, rfl, hc4, ho4⟩, hb4⟩
  have h4 := hb4.size
  clear x0 x1
  have HB4 := vl (HB3a.out.trans (hb4.mono HB3a.out.size))
  have HX4 := vl (HX3a.out.below hb4)
  have HW4 := vl (HW3a.out.below hb4)
  clear hb4 HX3a HW3a
  have hba := (Below.refl w4.heap.size w4).alloc (Nat.le_refl _) (.cells #[.bool up, .slice A4 T.length c4] 26)
  have HB4a := vl (HB4.out.trans (hba.mono HB4.out.size))
  have HX4a := vl (HX4.out.below hba)
  have HW4a := vl (HW4.out.below hba)
  have HP4a : Veil (One (w4.alloc (.cells #[.bool up, .slice A4 T.length c4] 26)) w4.heap.size up A4 T.length c4 W3.heap.size w4.heap.size T g4 G4) := vl ⟨TBox.new w4 up A4 T.length c4 26, ho4.below hba⟩
  clear hba ho4 HX4 HW4
  generalize hW4 : w4.alloc (.cells #[.bool up, .slice A4 T.length c4] 26) = W4 at HB4a HX4a HW4a HP4a
  have s4 : W4.heap.size = w4.heap.size + 1 := by rw [← hW4]; simp
  obtain ⟨p0, p1⟩ := HP4a.out.x
  go_wp2_with fail
  clear hW4
  have HPt := vl HP4a.out.o.trn
  refine (HIm.out _ _ _ HPt.out).mono ?_
  rintro e w5 ⟨⟨A5, c5, g5, G5, rfl, hc5, ho5⟩, hb5⟩
  have h5 := hb5.size
  have HB5 := vl (HB4a.out.trans (hb5.mono HB4a.out.size))
  have HX5 := vl (HX4a.out.below hb5)
  have HW5 := vl (HW4a.out.below hb5)
  have HP5 := vl (HP4a.out.below hb5)
  clear hb5 HX4a HW4a HP4a
  clear HPt p0 p1
  have hba := (Below.refl w5.heap.size w5).alloc (Nat.le_refl _) (.cells #[.bool u, .slice A5 S.length c5] 26)
  have HB5a := vl (HB5.out.trans (hba.mono HB5.out.size))
  have HX5a := vl (HX5.out.below hba)
  have HW5a := vl (HW5.out.below hba)
  have HP5a := vl (HP5.out.below hba)
  have HG5a : Veil (One (w5.alloc (.cells #[.bool u, .slice A5 S.length c5] 26)) w5.heap.size u A5 S.length c5 W4.heap.size w5.heap.size S g5 G5) := vl ⟨TBox.new w5 u A5 S.length c5 26, ho5.below hba⟩
  clear hba ho5 HX5 HW5 HP5
  generalize hW5 : w5.alloc (.cells #[.bool u, .slice A5 S.length c5] 26) = W5 at HB5a HX5a HW5a HP5a HG5a
  have s5 : W5.heap.size = w5.heap.size + 1 := by rw [← hW5]; simp
  obtain ⟨a0, a1⟩ := HW5a.out.x
  obtain ⟨b0, b1⟩ := HG5a.out.x
  go_wp2_with fail
  clear hW5
  refine (eqTrain u _ _ _ _ S _ HM.out.rows (fun r hr => HM.out.row hr) HG5a.out.o.trn HW5a.out.o.trn).mono ?_
  rintro e w6 ⟨rfl, hb6⟩
  have h6 := hb6.size
  clear a0 a1 b0 b1
  have HB6 := vl (HB5a.out.trans (hb6.mono HB5a.out.size))
  have HX6 := vl (HX5a.out.below hb6)
  have HW6 := vl (HW5a.out.below hb6)
  have HP6 := vl (HP5a.out.below hb6)
  have HG6 := vl (HG5a.out.below hb6)
  clear hb6 HX5a HW5a HP5a HG5a
  obtain ⟨x0, x1⟩ := HX6.out
  obtain ⟨y0, y1⟩ := HP6.out.x
  go_wp2
  go_region_held3 (fun w' => w'.cell? ⟨w.heap.size, 0, none⟩ = some (.bool up) ∧ w'.cell? ⟨w.heap.size, 1, none⟩ = some (.slice A T.length c) ∧ w'.cell? ⟨w4.heap.size, 0, none⟩ = some (.bool up) ∧ w'.cell? ⟨w4.heap.size, 1, none⟩ = some (.slice A4 T.length c4) ∧ Below w6.heap.size w6 w')
    (first | exact ⟨x0, x1, y0, y1, Below.refl _ _⟩ | exact ⟨x0, x1, y0, y1, (Below.refl _ _).drew⟩ | assumption)
    (first
      | (go_at_call 53; obtain ⟨a0, a1, a2, a3, hb7⟩ : _ ∧ _ ∧ _ ∧ _ ∧ Below w6.heap.size w6 _ := by assumption
         refine (toTrain up A c T _ hn1 HR1.out (HT.out.src.below (HB6.out.trans (hb7.mono HB6.out.size)))).mono ?_
         rintro e w' ⟨⟨A9, c9, g9, G9, rfl, _, ho9⟩, hb'⟩
         have HO9' := vl ho9.trn
         have S1' := And.intro ((hb'.cell (cell_lt' a0)).trans a0) (And.intro ((hb'.cell (cell_lt' a1)).trans a1) (And.intro ((hb'.cell (cell_lt' a2)).trans a2) (And.intro ((hb'.cell (cell_lt' a3)).trans a3) (hb7.trans (hb'.mono hb7.size)))))
         clear ho9 hb')
      | (go_at_call 54; obtain ⟨a0, a1, a2, a3, hb7⟩ : _ ∧ _ ∧ _ ∧ _ ∧ Below w6.heap.size w6 _ := by assumption
         with_reducible refine (eqTrain up _ _ _ _ T _ hn1 HR1.out (HP6.out.o.trn.below hb7) HO9'.out).mono ?_
         rintro e w' ⟨rfl, hb'⟩
         have S1' := And.intro ((hb'.cell (cell_lt' a0)).trans a0) (And.intro ((hb'.cell (cell_lt' a1)).trans a1) (And.intro ((hb'.cell (cell_lt' a2)).trans a2) (And.intro ((hb'.cell (cell_lt' a3)).trans a3) (hb7.trans (hb'.mono hb7.size)))))
         clear hb'))
  obtain ⟨z0, z1, z2, z3, hb7⟩ : _ ∧ _ ∧ _ ∧ _ ∧ Below w6.heap.size w6 _ := by assumption
  obtain ⟨w7, hw7⟩ : ∃ w7, w7 = w' := ⟨_, rfl⟩
  rw [← hw7] at z0 z1 z2 z3 hb7 ⊢
  have h7 := hb7.size
  clear z0 z1 z2 z3 S1' hw7 x0 x1 y0 y1
  have HB7 := vl (HB6.out.trans (hb7.mono HB6.out.size))
  have HX7 := vl (HX6.out.below hb7)
  have HW7 := vl (HW6.out.below hb7)
  have HP7 := vl (HP6.out.below hb7)
  have HG7 := vl (HG6.out.below hb7)
  clear hb7 HX6 HW6 HP6 HG6
  obtain ⟨K1, hK1⟩ : ∃ K1, K1 = 1 + 6 * (bts T).length := ⟨_, rfl⟩
  have hz1 : (0 : Int) ≤ (K1 : Int) := by omega
  obtain ⟨K3, hK3⟩ : ∃ K3, K3 = 1 + 6 * (bts S).length := ⟨_, rfl⟩
  have hz3 : (0 : Int) ≤ (K3 : Int) := by omega
  have HK1 := vl hK1
  have HK3 := vl hK3
  clear hK1 hK3
  obtain ⟨p0, p1⟩ := HP7.out.x
  have e8 := HP7.out.x.lt
  go_wp2_with fail
  refine (markTrain up A4 c4 1 T _ HM1.out (by omega) HP7.out.o (by omega)).mono ?_
  rintro e w8 ⟨he, ho8, ht8⟩
  rw [← HK1.out] at he
  subst he
  have h8 := ht8.size
  have HB8 := vl (ht8.below HB7.out (by omega))
  have HX8 := vl (HX7.out.touch ht8 (Or.inl (by omega)))
  have HW8 := vl (HW7.out.touch ht8 (by omega) (by omega))
  have HP8 := vl (HP7.out.mark ht8 (by omega) ho8)
  have HG8 := vl (HG7.out.touch ht8 (by omega) (by omega))
  clear ht8 ho8 p0 p1 HX7 HW7 HP7 HG7
  obtain ⟨a0, a1⟩ := HW8.out.x
  obtain ⟨b0, b1⟩ := HG8.out.x
  go_wp2_with fail
  refine (eqTrain u _ _ _ _ S _ HM.out.rows (fun r hr => HM.out.row hr) HG8.out.o.trn HW8.out.o.trn).mono ?_
  rintro e w9 ⟨rfl, hb9⟩
  have h9 := hb9.size
  clear a0 a1 b0 b1
  have HB9 := vl (HB8.out.trans (hb9.mono HB8.out.size))
  have HX9 := vl (HX8.out.below hb9)
  have HW9 := vl (HW8.out.below hb9)
  have HP9 := vl (HP8.out.below hb9)
  have HG9 := vl (HG8.out.below hb9)
  clear hb9 HX8 HW8 HP8 HG8
  obtain ⟨p0, p1⟩ := HG9.out.x
  have e10 := HG9.out.x.lt
  go_wp2_with fail
  refine (markTrain u A5 c5 1 S _ HM.out (by omega) HG9.out.o (by omega)).mono ?_
  rintro e w10 ⟨he, ho10, ht10⟩
  rw [← HK3.out] at he
  subst he
  have h10 := ht10.size
  have HB10 := vl (ht10.below HB9.out (by omega))
  have HX10 := vl (HX9.out.touch ht10 (Or.inl (by omega)))
  have HW10 := vl (HW9.out.touch ht10 (by omega) (by omega))
  have HP10 := vl (HP9.out.touch ht10 (by omega) (by omega))
  have HG10 := vl (HG9.out.mark ht10 (by omega) ho10)
  clear ht10 ho10 p0 p1 HX9 HW9 HP9 HG9
  obtain ⟨b0, b1⟩ := HG10.out.x
  go_wp2_with fail
  refine (heldTrain u A5 c5 1 S _ HM.out (by omega) HG10.out.o).mono ?_
  rintro e w11 ⟨he, hb11⟩
  rw [← HK3.out] at he
  subst he
  have h11 := hb11.size
  clear b0 b1
  have HB11 := vl (HB10.out.trans (hb11.mono HB10.out.size))
  have HX11 := vl (HX10.out.below hb11)
  have HW11 := vl (HW10.out.below hb11)
  have HG11 := vl (HG10.out.below hb11)
  clear hb11 HX10 HW10 HG10
  obtain ⟨x0, x1⟩ := HX11.out
  go_wp2_with fail
  refine (toTrain up A c T _ hn1 HR1.out (HT.out.src.below HB11.out)).mono ?_
  rintro e w12 ⟨⟨A12, c12, g12, G12, rfl, hc12, ho12⟩, hb12⟩
  have h12 := hb12.size
  clear x0 x1
  have HB12 := vl (HB11.out.trans (hb12.mono HB11.out.size))
  have HX12 := vl (HX11.out.below hb12)
  have HW12 := vl (HW11.out.below hb12)
  have HG12 := vl (HG11.out.below hb12)
  clear hb12 HX11 HW11 HG11
  have HP12 := vl ho12.trn
  clear ho12
  go_wp2_with fail
  refine (HIm.out _ _ _ HP12.out).mono ?_
  rintro e w13 ⟨⟨A13, c13, g13, G13, rfl, hc13, ho13⟩, hb13⟩
  have h13 := hb13.size
  have HB13 := vl (HB12.out.trans (hb13.mono HB12.out.size))
  have HX13 := vl (HX12.out.below hb13)
  have HW13 := vl (HW12.out.below hb13)
  have HG13 := vl (HG12.out.below hb13)
  clear hb13 HX12 HW12 HG12
  clear HP12
  have hba := (Below.refl w13.heap.size w13).alloc (Nat.le_refl _) (.cells #[.bool u, .slice A13 S.length c13] 26)
  have HB13a := vl (HB13.out.trans (hba.mono HB13.out.size))
  have HX13a := vl (HX13.out.below hba)
  have HW13a := vl (HW13.out.below hba)
  have HG13a := vl (HG13.out.below hba)
  have HI13a : Veil (One (w13.alloc (.cells #[.bool u, .slice A13 S.length c13] 26)) w13.heap.size u A13 S.length c13 w12.heap.size w13.heap.size S g13 G13) := vl ⟨TBox.new w13 u A13 S.length c13 26, ho13.below hba⟩
  clear hba ho13 HX13 HW13 HG13
  generalize hW13 : w13.alloc (.cells #[.bool u, .slice A13 S.length c13] 26) = W13 at HB13a HX13a HW13a HG13a HI13a
  have s13 : W13.heap.size = w13.heap.size + 1 := by rw [← hW13]; simp
  obtain ⟨a0, a1⟩ := HW13a.out.x
  obtain ⟨b0, b1⟩ := HI13a.out.x
  go_wp2_with fail
  clear hW13
  refine (eqTrain u _ _ _ _ S _ HM.out.rows (fun r hr => HM.out.row hr) HI13a.out.o.trn HW13a.out.o.trn).mono ?_
  rintro e w14 ⟨rfl, hb14⟩
  have h14 := hb14.size
  clear a0 a1 b0 b1
  have HB14 := vl (HB13a.out.trans (hb14.mono HB13a.out.size))
  have HX14 := vl (HX13a.out.below hb14)
  have HW14 := vl (HW13a.out.below hb14)
  have HG14 := vl (HG13a.out.below hb14)
  have HI14 := vl (HI13a.out.below hb14)
  clear hb14 HX13a HW13a HG13a HI13a
  obtain ⟨b0, b1⟩ := HG14.out.x
  go_wp2_with fail
  refine (heldTrain u A5 c5 1 S _ HM.out (by omega) HG14.out.o).mono ?_
  rintro e w15 ⟨he, hb15⟩
  rw [← HK3.out] at he
  subst he
  have h15 := hb15.size
  clear b0 b1
  have HB15 := vl (HB14.out.trans (hb15.mono HB14.out.size))
  have HG15 := vl (HG14.out.below hb15)
  clear hb15 HG14
  go_wp2
  go_ret
  exact ⟨rfl, HB15.out⟩

theorem parOk : Try.f17.params.toList.all (fun t => Try.prog.readableRec t && decide (t < Try.prog.types.size)) = true := by kernel_rfl
set_option maxRecDepth 100000 in
theorem lifted (os : Os) (started : os.Started) (H : Type) (enc : TypeId × Value → H) :
    ReturnsInHanded {} Try.checked os 17 .any (Rows.fnExactReformTrainSpec.pre6 enc Try.prog Try.f17 Rows.fnExactReformTrainRow.domain false) (Rows.fnExactReformTrainSpec.post enc Try.prog Try.f17 false true false false) := by
  refine law_lifted (C := Try.checked) own started (by kernel_rfl) Try.func17 laid (fun t ht => by
      have h := List.all_eq_true.1 parOk t ht
      rw [Bool.and_eq_true] at h
      exact ⟨h.1, of_decide_eq_true h.2⟩) rfl Try.underlying4 rfl
    (fun xs hx => by
      rw [show Try.f17.params.toList.length = 2 from by rw [Try.params17]; rfl] at hx
      match xs, hx with
      | [d0, d1], _ => rfl)
    (ChangeSpec.witness6 (enc := enc) (C := Try.checked) false ⟨#[], #[.agg #[.bool false, .slice none 0 0], .int .i64 0], []⟩ 8 (by kernel_rfl) (by kernel_rfl) (by kernel_rfl) (by kernel_rfl)) ?_
  intro W base args ds p hval0 hA0 _
  have hval : ∀ (j : Nat) t v, Try.f17.params[j]? = some t → args[j]? = some v → Value.okWide Try.prog W .any base t v := hval0
  have hA : DataW.TrodAll enc Try.prog W 0 (fun _ => true) true Try.f17.params.toList args.toList ds p := hA0
  clear hA0 hval0
  rw [Try.params17] at hA hval
  obtain ⟨v0, vs0, d0, ds0, p0, q0, hargs, rfl, rfl, h0, r0⟩ := trodAll_cons hA
  obtain ⟨v1, vs1, d1, ds1, p1, q1, rfl, rfl, rfl, h1, r1⟩ := trodAll_cons r0
  obtain ⟨rfl, rfl, rfl⟩ := trodAll_nil r1
  obtain rfl : args = #[v0, v1] := by cases args; simp_all
  obtain ⟨up0, A0, c0, T0, rfl, x0⟩ := open_train (hval 0 58 _ rfl rfl) h0
  obtain ⟨a1, rfl, rfl, _, x1⟩ := open_int Try.underlying3 (hval 1 3 _ rfl rfl) h1
  exact walk up0 A0 c0 T0 a1 W x0 x1

/-- The statement. -/
theorem proved : Rows.FnExactReformTrainSaid :=
  OpenClaim.holds_of_wide 17 Try.f17 rfl rfl rfl rfl rfl rfl rfl ⟨rfl, rfl, rfl, rfl, rfl⟩ rfl rfl rfl rfl rfl (by kernel_rfl) Try.func17 (by show joinedFacts Try.prog _ _ _ _ = true; unfold joinedFacts; rw [Io.mayEnter, Io.liftsFinal, Io.make]; kernel_rfl)
    (of_decide_eq_true (by kernel_rfl)) (by unfold Func.isWrapper; first | (rw [if_pos (by decide +kernel)]; kernel_rfl) | (rw [if_neg (by decide +kernel)]; exact ⟨rfl, rfl⟩))
    (fun os started H enc _ => lifted os started H enc)
#print axioms proved
end Go.Proofs.Ytmfeleocjmdooaa.fnExactReformTrain
