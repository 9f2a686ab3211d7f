/-
  For every input the Go function 'laws.FnExactDivideTrain' returns true, and each argument reads afterwards as it read before. No further condition.
-/
import Derived.Test.YtmfeleocjmdooaaTrL2
import Derived.Test.YtmfeleocjmdooaaTrnE
import Derived.Test.YtmfeleocjmdooaaOpenT
import Derived.Test.YtmfeleocjmdooaaTrLw
import Derived.Test.YtmfeleocjmdooaaLift
import Derived.Test.YtmfeleocjmdooaaIo
import Derived.Test.YtmfeleocjmdooaaOpen
import Derived.ChangeMaps5
namespace Go.Proofs.Ytmfeleocjmdooaa.fnExactDivideTrain
open Go.Proofs.Ytmfeleocjmdooaa.C1 Go.Proofs.Ytmfeleocjmdooaa.Lift Go.Proofs.Ytmfeleocjmdooaa.Opened
open Go.ChangeShapes Go.WideShapes Go.ChangeAt Go.RowKit Go.ChangeMaps
set_option linter.unusedVariables false

set_option maxRecDepth 100000 in
set_option maxHeartbeats 2000000 in
theorem walk (up : Bool) (A : Option Addr) (c : Nat) (T : List (List Bt)) (k : Int) (w : World) (ht : ArgT w A T) (hki : (Lit.int .i64 k).wf = true) :
    Calls Try.prog 16 #[.agg #[.bool up, .slice A T.length c], .int .i64 k] w fun e w' => e = .returned (.bool true) ∧ Below w.heap.size w w' := by
  have HT := vl ht
  have HB0 := vl ((Below.refl w.heap.size w).alloc (Nat.le_refl _) (.cells #[.bool up, .slice A T.length c] 58))
  have HX0 := vl (TBox.new w up A T.length c 58)
  have HT0 := vl (show ArgT (w.alloc (.cells #[.bool up, .slice A T.length c] 58)) A T from ⟨ht.len, ht.row, ht.src.below HB0.out⟩)
  obtain ⟨x0, x1⟩ := HX0.out
  clear ht
  by_cases hbig : (1048576 : Int) < (szT T : Int)
  · go_enter Try.func16, Try.ntmps16
    go_wp2_with fail
    refine (szTrain_no up A c T _ _ (by omega) (by omega) HT0.out hbig).mono ?_
    rintro e w1 ⟨rfl, hb1⟩
    have HB1 := vl (HB0.out.trans (hb1.mono HB0.out.size))
    clear hb1
    go_wp2
    go_ret
    exact ⟨rfl, HB1.out⟩
  have hsz : (szT T : Int) ≤ 1048576 := by omega
  have HM := vl (mod_of hsz)
  have hn := HM.out.rows
  have HR := vl (fun r (hr : r ∈ T) => HM.out.row hr)
  clear hbig
  go_enter Try.func16, Try.ntmps16
  go_wp2_with fail
  refine (szTrain_yes up A c T _ _ (by omega) HT0.out hsz).mono ?_
  rintro e w1 ⟨rfl, hb1⟩
  have HB1 := vl (HB0.out.trans (hb1.mono HB0.out.size))
  have HX1 := vl (HX0.out.below hb1)
  clear hb1 x0 x1
  obtain ⟨x0, x1⟩ := HX1.out
  go_wp2_with fail
  refine (toTrain up A c T _ hn HR.out (HT.out.src.below HB1.out)).mono ?_
  rintro e w2 ⟨⟨A2, c2, g2, G2, rfl, hc2, ho2⟩, hb2⟩
  have HB2 := vl (HB1.out.trans (hb2.mono HB1.out.size))
  have HX2 := vl (HX1.out.below hb2)
  have HP2 := vl ho2.trn
  clear hb2 ho2 x0 x1
  go_wp2_with fail
  refine (divide_spec up A2 c2 T k _ HM.out hc2 HP2.out).mono ?_
  rintro e w3 ⟨⟨A0, c0, g0, G0, A1, c1, g1, G1, M0, rfl, hM0, hM1, ho0, ho1⟩, hb3⟩
  have HM0 := vl (divF_mod HM.out k)
  have HM1 := vl (divS_mod HM.out k)
  obtain ⟨u, hu⟩ : ∃ u, u = divU up T k := ⟨_, rfl⟩
  obtain ⟨q, hq⟩ : ∃ q, q = divB T k := ⟨_, rfl⟩
  obtain ⟨S0, hS0⟩ : ∃ S, S = divF T k := ⟨_, rfl⟩
  obtain ⟨S1, hS1⟩ : ∃ S, S = divS T k := ⟨_, rfl⟩
  rw [← hS0] at ho0 HM0 ⊢
  rw [← hS1] at ho1 HM1 ⊢
  rw [← hu, ← hq]
  have HI := vl (And.intro hu (And.intro hq (And.intro hS0 hS1)))
  have HB3 := vl (HB2.out.trans (hb3.mono HB2.out.size))
  have HX3 := vl (HX2.out.below hb3)
  clear hb3 hu hq hS0 hS1
  have hba := ((Below.refl w3.heap.size w3).alloc (Nat.le_refl _) (.cells #[.bool u, .slice A0 S0.length c0] 26)).alloc (by simp) (.cells #[.bool u, .slice A1 S1.length c1] 26)
  have HB3a := vl (HB3.out.trans (hba.mono HB3.out.size))
  have HX3a := vl (HX3.out.below hba)
  have HW3 : Veil (Two ((w3.alloc (.cells #[.bool u, .slice A0 S0.length c0] 26)).alloc (.cells #[.bool u, .slice A1 S1.length c1] 26)) w3.heap.size u A0 A1 S0.length S1.length c0 c1 w2.heap.size M0 w3.heap.size S0 S1 g0 g1 G0 G1) := vl
    ⟨(TBox.new w3 u A0 S0.length c0 26).below ((Below.refl _ _).alloc (Nat.le_refl _) _), by have := TBox.new (w3.alloc (.cells #[.bool u, .slice A0 S0.length c0] 26)) u A1 S1.length c1 26; simpa using this, ho0.below hba, ho1.below hba⟩
  have h23 : w2.heap.size ≤ w3.heap.size := by omega
  have hlt0 := HX3.out.lt
  clear hba ho0 ho1
  generalize hW3 : (w3.alloc (.cells #[.bool u, .slice A0 S0.length c0] 26)).alloc (.cells #[.bool u, .slice A1 S1.length c1] 26) = W3 at HB3a HX3a HW3
  have h33 : W3.heap.size = w3.heap.size + 2 := by rw [← hW3]; simp
  obtain ⟨x0, x1⟩ := HX3a.out
  go_wp2_with fail
  clear hW3
  refine (toTrain up A c T _ hn HR.out (HT.out.src.below HB3a.out)).mono ?_
  rintro e w4 ⟨⟨A4, c4, g4, G4, rfl, hc4, ho4⟩, hb4⟩
  have h34 := hb4.size
  have HB4 := vl (HB3a.out.trans (hb4.mono HB3a.out.size))
  have HX4 := vl (HX3a.out.below hb4)
  have HW4 := vl (HW3.out.below hb4)
  clear hb4 x0 x1
  have hba := (Below.refl w4.heap.size w4).alloc (Nat.le_refl _) (.cells #[.bool up, .slice A4 T.length c4] 26)
  have HB4a := vl (HB4.out.alloc HB4.out.size (.cells #[.bool up, .slice A4 T.length c4] 26))
  have HX4a := vl (HX4.out.below hba)
  have HW4a := vl (HW4.out.below hba)
  have HO4a := vl (ho4.below hba)
  have HY4 := vl (TBox.new w4 up A4 T.length c4 26)
  clear hba ho4
  obtain ⟨x0, x1⟩ := HX4a.out
  obtain ⟨y0, y1⟩ := HY4.out
  go_wp2_with fail
  refine (divide_impl up A4 c4 T k _ HM.out hc4 HO4a.out.trn).mono ?_
  rintro e w5 ⟨⟨A5, c5, g5, G5, A6, c6, g6, G6, M5, rfl, hM5, hM6, ho5, ho6⟩, hb5⟩
  rw [← HI.out.2.2.1] at ho5 ⊢
  rw [← HI.out.2.2.2] at ho6 ⊢
  rw [← HI.out.1, ← HI.out.2.1]
  simp only [World.size_alloc] at hM5
  have HB5 := vl (HB4a.out.trans (hb5.mono HB4a.out.size))
  have HX5 := vl (HX4a.out.below hb5)
  have HY5 := vl (HY4.out.below hb5)
  have HO5 := vl (HO4a.out.below hb5)
  have HW5 := vl (HW4a.out.below hb5)
  clear hb5 x0 x1 y0 y1
  have hba := ((Below.refl w5.heap.size w5).alloc (Nat.le_refl _) (.cells #[.bool u, .slice A5 S0.length c5] 26)).alloc (by simp) (.cells #[.bool u, .slice A6 S1.length c6] 26)
  have HB5a := vl (HB5.out.trans (hba.mono HB5.out.size))
  have HX5a := vl (HX5.out.below hba)
  have HY5a := vl (HY5.out.below hba)
  have HO5a := vl (HO5.out.below hba)
  have HW5a := vl (HW5.out.below hba)
  have HG5a : Veil (Two ((w5.alloc (.cells #[.bool u, .slice A5 S0.length c5] 26)).alloc (.cells #[.bool u, .slice A6 S1.length c6] 26)) w5.heap.size u A5 A6 S0.length S1.length c5 c6 (w4.heap.size + 1) M5 w5.heap.size S0 S1 g5 g6 G5 G6) := vl
    ⟨(TBox.new w5 u A5 S0.length c5 26).below ((Below.refl _ _).alloc (Nat.le_refl _) _), by have := TBox.new (w5.alloc (.cells #[.bool u, .slice A5 S0.length c5] 26)) u A6 S1.length c6 26; simpa using this, by have := ho5.below hba; simpa using this, ho6.below hba⟩
  clear hba ho5 ho6
  generalize hW5 : (w5.alloc (.cells #[.bool u, .slice A5 S0.length c5] 26)).alloc (.cells #[.bool u, .slice A6 S1.length c6] 26) = W5 at HB5a HX5a HY5a HO5a HW5a HG5a
  have h55 : W5.heap.size = w5.heap.size + 2 := by rw [← hW5]; simp
  obtain ⟨a0, a1⟩ := HW5a.out.x
  obtain ⟨a2, a3⟩ := HW5a.out.y
  obtain ⟨b0, b1⟩ := HG5a.out.x
  obtain ⟨b2, b3⟩ := HG5a.out.y
  clear HB3 HB3a HB4 HB4a HB5 HX3 HX3a HX4 HX4a HX5 HY4 HY5 HO4a HO5 HW3 HW4 HW4a HW5
  go_wp2_with fail
  clear hW5
  refine (eqTrain u _ _ _ _ S0 _ HM0.out.rows (fun r hr => HM0.out.row hr) HG5a.out.o.trn HW5a.out.o.trn).mono ?_
  rintro e w6 ⟨rfl, hb6⟩
  have HB6 := vl (HB5a.out.trans (hb6.mono HB5a.out.size))
  have HX6 := vl (HX5a.out.below hb6)
  have HY6 := vl (HY5a.out.below hb6)
  have HO6 := vl (HO5a.out.below hb6)
  have HW6 := vl (HW5a.out.below hb6)
  have HG6 := vl (HG5a.out.below hb6)
  clear hb6
  clear a0 a1 a2 a3 b0 b1 b2 b3
  obtain ⟨a0, a1⟩ := HW6.out.x
  obtain ⟨a2, a3⟩ := HW6.out.y
  obtain ⟨b0, b1⟩ := HG6.out.x
  obtain ⟨b2, b3⟩ := HG6.out.y
  go_wp2_with fail
  refine (eqTrain u _ _ _ _ S1 _ HM1.out.rows (fun r hr => HM1.out.row hr) HG6.out.o'.trn HW6.out.o'.trn).mono ?_
  rintro e w7 ⟨rfl, hb7⟩
  have HB7 := vl (HB6.out.trans (hb7.mono HB6.out.size))
  have HX7 := vl (HX6.out.below hb7)
  have HY7 := vl (HY6.out.below hb7)
  have HO7 := vl (HO6.out.below hb7)
  have HW7 := vl (HW6.out.below hb7)
  have HG7 := vl (HG6.out.below hb7)
  clear hb7
  clear a0 a1 a2 a3 b0 b1 b2 b3
  have h57 := HB7.out.size
  obtain ⟨x0, x1⟩ := HX7.out
  obtain ⟨y0, y1⟩ := HY7.out
  go_wp2
  go_region_held3 (fun w' => w'.cell? ⟨w.heap.size, 0, none⟩ = some (.bool up) ∧ w'.cell? ⟨w.heap.size, 1, none⟩ = some (.slice A T.length c) ∧ w'.cell? ⟨w4.heap.size, 0, none⟩ = some (.bool up) ∧ w'.cell? ⟨w4.heap.size, 1, none⟩ = some (.slice A4 T.length c4) ∧ Below w7.heap.size w7 w')
    (first | exact ⟨x0, x1, y0, y1, Below.refl _ _⟩ | exact ⟨x0, x1, y0, y1, (Below.refl _ _).drew⟩ | assumption)
    (first
      | (go_at_call 53; obtain ⟨a0, a1, a2, a3, hb7⟩ : _ ∧ _ ∧ _ ∧ _ ∧ Below w7.heap.size w7 _ := by assumption
         refine (toTrain up A c T _ hn HR.out (HT.out.src.below (HB7.out.trans (hb7.mono HB7.out.size)))).mono ?_
         rintro e w' ⟨⟨A8, c8, g8, G8, rfl, _, ho8⟩, hb'⟩
         have HO8' := vl ho8.trn
         have S1' := And.intro ((hb'.cell (cell_lt' a0)).trans a0) (And.intro ((hb'.cell (cell_lt' a1)).trans a1) (And.intro ((hb'.cell (cell_lt' a2)).trans a2) (And.intro ((hb'.cell (cell_lt' a3)).trans a3) (hb7.trans (hb'.mono hb7.size)))))
         clear ho8 hb')
      | (go_at_call 54; obtain ⟨a0, a1, a2, a3, hb7⟩ : _ ∧ _ ∧ _ ∧ _ ∧ Below w7.heap.size w7 _ := by assumption
         refine (eqTrain up _ _ _ _ T _ hn HR.out (HO7.out.trn.below hb7) HO8'.out).mono ?_
         rintro e w' ⟨rfl, hb'⟩
         have S1' := And.intro ((hb'.cell (cell_lt' a0)).trans a0) (And.intro ((hb'.cell (cell_lt' a1)).trans a1) (And.intro ((hb'.cell (cell_lt' a2)).trans a2) (And.intro ((hb'.cell (cell_lt' a3)).trans a3) (hb7.trans (hb'.mono hb7.size)))))
         clear hb'))
  obtain ⟨z0, z1, z2, z3, hb8⟩ : _ ∧ _ ∧ _ ∧ _ ∧ Below w7.heap.size w7 _ := by assumption
  obtain ⟨w8, hw8⟩ : ∃ w8, w8 = w' := ⟨_, rfl⟩
  rw [← hw8] at z0 z1 z2 z3 hb8 ⊢
  have HB8 := vl (HB7.out.trans (hb8.mono HB7.out.size))
  have HX8 := vl (HX7.out.below hb8)
  have HY8 := vl (HY7.out.below hb8)
  have HO8 := vl (HO7.out.below hb8)
  have HW8 := vl (HW7.out.below hb8)
  have HG8 := vl (HG7.out.below hb8)
  clear hb8
  clear z0 z1 z2 z3 S1' hw8 x0 x1 y0 y1 HB6 HB7 HX6 HX7 HY6 HY7 HO6 HO7 HW6 HW7 HG6 HG7 HX5a HY5a HO5a HW5a HG5a HB5a
  obtain ⟨y0, y1⟩ := HY8.out
  have hG8 := HG8.out.y.lt
  have hY8 := HY8.out.lt
  go_wp2_with fail
  refine (markTrain up A4 c4 1 T _ HM.out (by omega) HO8.out (by omega)).mono ?_
  rintro e w9 ⟨rfl, _, ht9⟩
  have HB9 := vl (ht9.below HB8.out (by omega))
  have HX9 := vl (HX8.out.touch ht9 (Or.inl (by omega)))
  have HW9 := vl (HW8.out.touch ht9 (by omega) (by omega) (Nat.le_refl _) (Or.inl (by omega)))
  have HG9 := vl (HG8.out.touch ht9 (by omega) (by omega) (Nat.le_refl _) (Or.inr (by omega)))
  clear ht9 y0 y1
  obtain ⟨a0, a1⟩ := HW9.out.x
  obtain ⟨a2, a3⟩ := HW9.out.y
  obtain ⟨b0, b1⟩ := HG9.out.x
  obtain ⟨b2, b3⟩ := HG9.out.y
  go_wp2_with fail
  refine (eqTrain u _ _ _ _ S0 _ HM0.out.rows (fun r hr => HM0.out.row hr) HG9.out.o.trn HW9.out.o.trn).mono ?_
  rintro e w10 ⟨rfl, hb10⟩
  have HB10 := vl (HB9.out.trans (hb10.mono HB9.out.size))
  have HX10 := vl (HX9.out.below hb10)
  have HW10 := vl (HW9.out.below hb10)
  have HG10 := vl (HG9.out.below hb10)
  clear hb10
  clear a0 a1 a2 a3 b0 b1 b2 b3
  obtain ⟨a0, a1⟩ := HW10.out.x
  obtain ⟨a2, a3⟩ := HW10.out.y
  obtain ⟨b0, b1⟩ := HG10.out.x
  obtain ⟨b2, b3⟩ := HG10.out.y
  go_wp2_with fail
  refine (eqTrain u _ _ _ _ S1 _ HM1.out.rows (fun r hr => HM1.out.row hr) HG10.out.o'.trn HW10.out.o'.trn).mono ?_
  rintro e w11 ⟨rfl, hb11⟩
  have HB11 := vl (HB10.out.trans (hb11.mono HB10.out.size))
  have HX11 := vl (HX10.out.below hb11)
  have HW11 := vl (HW10.out.below hb11)
  have HG11 := vl (HG10.out.below hb11)
  clear hb11
  clear a0 a1 a2 a3 b0 b1 b2 b3
  have hG11 := HG11.out.y.lt
  obtain ⟨b0, b1⟩ := HG11.out.x
  obtain ⟨K1, hK1⟩ : ∃ K1, K1 = 1 + 6 * (bts S0).length := ⟨_, rfl⟩
  have hS0a := HM0.out.all
  have hS1a := HM1.out.all
  have hK1b : K1 ≤ 50000000 := by omega
  have hz1 : (0 : Int) ≤ (K1 : Int) := by omega
  obtain ⟨K2, hK2⟩ : ∃ K2, K2 = K1 + 6 * (bts S1).length := ⟨_, rfl⟩
  have hz2 : (0 : Int) ≤ (K2 : Int) := by omega
  have HK1 := vl hK1
  have HK2 := vl hK2
  clear hK1 hK2
  go_wp2_with fail
  refine (markTrain u A5 c5 1 S0 _ HM0.out (by omega) HG11.out.o (by omega)).mono ?_
  rintro e w12 ⟨he, ho12, ht12⟩
  rw [← HK1.out] at he
  subst he
  have HB12 := vl (ht12.below HB11.out (by omega))
  have HX12 := vl (HX11.out.touch ht12 (Or.inl (by omega)))
  have HW12 := vl (HW11.out.touch ht12 (by omega) (by omega) (Nat.le_refl _) (Or.inl (by omega)))
  have HG12 := vl (HG11.out.first ht12 hM5 hM6 (Nat.le_refl _) ho12)
  have h12 := ht12.size
  clear ht12 ho12 b0 b1
  obtain ⟨b2, b3⟩ := HG12.out.y
  go_wp2_with fail
  refine (markTrain u A6 c6 K1 S1 _ HM1.out hK1b HG12.out.o' (by omega)).mono ?_
  rintro e w13 ⟨he, ho13, ht13⟩
  rw [← HK2.out] at he
  subst he
  have HB13 := vl (ht13.below HB12.out (by omega))
  have HX13 := vl (HX12.out.touch ht13 (Or.inl (by omega)))
  have HW13 := vl (HW12.out.touch ht13 (by omega) (by omega) (Nat.le_refl _) (Or.inl (by omega)))
  have HG13 := vl (HG12.out.second ht13 hM5 hM6 (Nat.le_refl _) ho13)
  clear ht13 ho13 b2 b3
  obtain ⟨b0, b1⟩ := HG13.out.x
  go_wp2_with fail
  refine (heldTrain u A5 c5 1 S0 _ HM0.out (by omega) HG13.out.o).mono ?_
  rintro e w14 ⟨he, hb14⟩
  rw [← HK1.out] at he
  subst he
  have HB14 := vl (HB13.out.trans (hb14.mono HB13.out.size))
  have HX14 := vl (HX13.out.below hb14)
  have HW14 := vl (HW13.out.below hb14)
  have HG14 := vl (HG13.out.below hb14)
  clear hb14
  clear b0 b1
  obtain ⟨b2, b3⟩ := HG14.out.y
  go_wp2_with fail
  refine (heldTrain u A6 c6 K1 S1 _ HM1.out hK1b HG14.out.o').mono ?_
  rintro e w15 ⟨he, hb15⟩
  rw [← HK2.out] at he
  subst he
  have HB15 := vl (HB14.out.trans (hb15.mono HB14.out.size))
  have HX15 := vl (HX14.out.below hb15)
  have HW15 := vl (HW14.out.below hb15)
  have HG15 := vl (HG14.out.below hb15)
  clear hb15
  clear b2 b3
  obtain ⟨x0, x1⟩ := HX15.out
  go_wp2_with fail
  refine (toTrain up A c T _ hn HR.out (HT.out.src.below HB15.out)).mono ?_
  rintro e w16 ⟨⟨A16, c16, g16, G16, rfl, hc16, ho16⟩, hb16⟩
  have HP16 := vl ho16.trn
  have HB16 := vl (HB15.out.trans (hb16.mono HB15.out.size))
  have HX16 := vl (HX15.out.below hb16)
  have HW16 := vl (HW15.out.below hb16)
  have HG16 := vl (HG15.out.below hb16)
  clear hb16
  clear ho16 x0 x1
  go_wp2_with fail
  refine (divide_impl up A16 c16 T k _ HM.out hc16 HP16.out).mono ?_
  rintro e w17 ⟨⟨A17, c17, g17, G17, A18, c18, g18, G18, M17, rfl, hM17, hM18, ho17, ho18⟩, hb17⟩
  rw [← HI.out.2.2.1] at ho17 ⊢
  rw [← HI.out.2.2.2] at ho18 ⊢
  rw [← HI.out.1, ← HI.out.2.1]
  have HB17 := vl (HB16.out.trans (hb17.mono HB16.out.size))
  have HX17 := vl (HX16.out.below hb17)
  have HW17 := vl (HW16.out.below hb17)
  have HG17 := vl (HG16.out.below hb17)
  clear hb17
  have hba := ((Below.refl w17.heap.size w17).alloc (Nat.le_refl _) (.cells #[.bool u, .slice A17 S0.length c17] 26)).alloc (by simp) (.cells #[.bool u, .slice A18 S1.length c18] 26)
  have HB17a := vl (HB17.out.trans (hba.mono HB17.out.size))
  have HX17a := vl (HX17.out.below hba)
  have HW17a := vl (HW17.out.below hba)
  have HG17a := vl (HG17.out.below hba)
  have HH17a : Veil (Two ((w17.alloc (.cells #[.bool u, .slice A17 S0.length c17] 26)).alloc (.cells #[.bool u, .slice A18 S1.length c18] 26)) w17.heap.size u A17 A18 S0.length S1.length c17 c18 w16.heap.size M17 w17.heap.size S0 S1 g17 g18 G17 G18) := vl
    ⟨(TBox.new w17 u A17 S0.length c17 26).below ((Below.refl _ _).alloc (Nat.le_refl _) _), by have := TBox.new (w17.alloc (.cells #[.bool u, .slice A17 S0.length c17] 26)) u A18 S1.length c18 26; simpa using this, ho17.below hba, ho18.below hba⟩
  clear hba ho17 ho18
  generalize hW17 : (w17.alloc (.cells #[.bool u, .slice A17 S0.length c17] 26)).alloc (.cells #[.bool u, .slice A18 S1.length c18] 26) = W17 at HB17a HX17a HW17a HG17a HH17a
  obtain ⟨a0, a1⟩ := HW17a.out.x
  obtain ⟨a2, a3⟩ := HW17a.out.y
  obtain ⟨b0, b1⟩ := HH17a.out.x
  obtain ⟨b2, b3⟩ := HH17a.out.y
  go_wp2_with fail
  clear hW17
  refine (eqTrain u _ _ _ _ S0 _ HM0.out.rows (fun r hr => HM0.out.row hr) HH17a.out.o.trn HW17a.out.o.trn).mono ?_
  rintro e w18 ⟨rfl, hb18⟩
  have HB18 := vl (HB17a.out.trans (hb18.mono HB17a.out.size))
  have HX18 := vl (HX17a.out.below hb18)
  have HW18 := vl (HW17a.out.below hb18)
  have HG18 := vl (HG17a.out.below hb18)
  have HH18 := vl (HH17a.out.below hb18)
  clear hb18
  clear a0 a1 a2 a3 b0 b1 b2 b3
  obtain ⟨a2, a3⟩ := HW18.out.y
  obtain ⟨b2, b3⟩ := HH18.out.y
  go_wp2_with fail
  refine (eqTrain u _ _ _ _ S1 _ HM1.out.rows (fun r hr => HM1.out.row hr) HH18.out.o'.trn HW18.out.o'.trn).mono ?_
  rintro e w19 ⟨rfl, hb19⟩
  have HB19 := vl (HB18.out.trans (hb19.mono HB18.out.size))
  have HX19 := vl (HX18.out.below hb19)
  have HW19 := vl (HW18.out.below hb19)
  have HG19 := vl (HG18.out.below hb19)
  clear hb19
  clear a2 a3 b2 b3
  obtain ⟨b0, b1⟩ := HG19.out.x
  go_wp2_with fail
  refine (heldTrain u A5 c5 1 S0 _ HM0.out (by omega) HG19.out.o).mono ?_
  rintro e w20 ⟨he, hb20⟩
  rw [← HK1.out] at he
  subst he
  have HB20 := vl (HB19.out.trans (hb20.mono HB19.out.size))
  have HX20 := vl (HX19.out.below hb20)
  have HW20 := vl (HW19.out.below hb20)
  have HG20 := vl (HG19.out.below hb20)
  clear hb20
  clear b0 b1
  obtain ⟨b2, b3⟩ := HG20.out.y
  go_wp2_with fail
  refine (heldTrain u A6 c6 K1 S1 _ HM1.out hK1b HG20.out.o').mono ?_
  rintro e w21 ⟨he, hb21⟩
  rw [← HK2.out] at he
  subst he
  have HB21 := vl (HB20.out.trans (hb21.mono HB20.out.size))
  have HX21 := vl (HX20.out.below hb21)
  have HW21 := vl (HW20.out.below hb21)
  have HG21 := vl (HG20.out.below hb21)
  clear hb21
  clear b2 b3
  go_wp2
  go_ret
  exact ⟨rfl, HB21.out⟩

theorem parOk : Try.f16.params.toList.all (fun t => Try.prog.readableRec t && decide (t < Try.prog.types.size)) = true := by kernel_rfl
set_option maxRecDepth 100000 in
theorem lifted (os : Os) (started : os.Started) (H : Type) (enc : TypeId × Value → H) :
    ReturnsInHanded {} Try.checked os 16 .any (Rows.fnExactDivideTrainSpec.pre6 enc Try.prog Try.f16 Rows.fnExactDivideTrainRow.domain false) (Rows.fnExactDivideTrainSpec.post enc Try.prog Try.f16 false true false false) := by
  refine law_lifted (C := Try.checked) own started (by kernel_rfl) Try.func16 laid (fun t ht => by
      have h := List.all_eq_true.1 parOk t ht
      rw [Bool.and_eq_true] at h
      exact ⟨h.1, of_decide_eq_true h.2⟩) rfl Try.underlying4 rfl
    (fun xs hx => by
      rw [show Try.f16.params.toList.length = 2 from by rw [Try.params16]; rfl] at hx
      match xs, hx with
      | [d0, d1], _ => rfl)
    (ChangeSpec.witness6 (enc := enc) (C := Try.checked) false ⟨#[], #[.agg #[.bool false, .slice none 0 0], .int .i64 0], []⟩ 8 (by kernel_rfl) (by kernel_rfl) (by kernel_rfl) (by kernel_rfl)) ?_
  intro W base args ds p hval0 hA0 _
  have hval : ∀ (j : Nat) t v, Try.f16.params[j]? = some t → args[j]? = some v → Value.okWide Try.prog W .any base t v := hval0
  have hA : DataW.TrodAll enc Try.prog W 0 (fun _ => true) true Try.f16.params.toList args.toList ds p := hA0
  clear hA0 hval0
  rw [Try.params16] at hA hval
  obtain ⟨v0, vs0, d0, ds0, p0, q0, hargs, rfl, rfl, h0, r0⟩ := trodAll_cons hA
  obtain ⟨v1, vs1, d1, ds1, p1, q1, rfl, rfl, rfl, h1, r1⟩ := trodAll_cons r0
  obtain ⟨rfl, rfl, rfl⟩ := trodAll_nil r1
  obtain rfl : args = #[v0, v1] := by cases args; simp_all
  obtain ⟨up0, A0, c0, T0, rfl, x0⟩ := open_train (hval 0 58 _ rfl rfl) h0
  obtain ⟨a1, rfl, rfl, _, x1⟩ := open_int Try.underlying3 (hval 1 3 _ rfl rfl) h1
  exact walk up0 A0 c0 T0 a1 W x0 x1

/-- The statement. -/
theorem proved : Rows.FnExactDivideTrainSaid :=
  OpenClaim.holds_of_wide 16 Try.f16 rfl rfl rfl rfl rfl rfl rfl ⟨rfl, rfl, rfl, rfl, rfl⟩ rfl rfl rfl rfl rfl (by kernel_rfl) Try.func16 (by show joinedFacts Try.prog _ _ _ _ = true; unfold joinedFacts; rw [Io.mayEnter, Io.liftsFinal, Io.make]; kernel_rfl)
    (of_decide_eq_true (by kernel_rfl)) (by unfold Func.isWrapper; first | (rw [if_pos (by decide +kernel)]; kernel_rfl) | (rw [if_neg (by decide +kernel)]; exact ⟨rfl, rfl⟩))
    (fun os started H enc _ => lifted os started H enc)
#print axioms proved
end Go.Proofs.Ytmfeleocjmdooaa.fnExactDivideTrain
