/-
  For every input the Go function 'laws.FnExactCoupleTrains' returns true, and each argument reads afterwards as it read before. No further condition.
-/
import Derived.Test.YtmfeleocjmdooaaTrL3
import Derived.Test.YtmfeleocjmdooaaTrE
import Derived.Test.YtmfeleocjmdooaaTrnE
import Derived.Test.YtmfeleocjmdooaaOpenT
import Derived.Test.YtmfeleocjmdooaaTrLw
import Derived.Deep.DeepCutAuto
import Derived.Test.YtmfeleocjmdooaaLift
import Derived.Test.YtmfeleocjmdooaaIo
import Derived.Test.YtmfeleocjmdooaaOpen
import Derived.ChangeMaps5
namespace Go.Proofs.Ytmfeleocjmdooaa.fnExactCoupleTrains
open Go.Proofs.Ytmfeleocjmdooaa.C1 Go.Proofs.Ytmfeleocjmdooaa.Lift Go.Proofs.Ytmfeleocjmdooaa.Opened
open Go.ChangeShapes Go.WideShapes Go.ChangeAt Go.RowKit Go.ChangeMaps
set_option linter.unusedVariables false

set_option maxRecDepth 100000 in
set_option maxHeartbeats 2000000 in
theorem walk (u1 : Bool) (A1 : Option Addr) (c1 : Nat) (T1 : List (List Bt)) (u2 : Bool) (A2 : Option Addr) (c2 : Nat) (T2 : List (List Bt)) (w : World) (ht1 : ArgT w A1 T1) (ht2 : ArgT w A2 T2) :
    Calls Try.prog 15 #[.agg #[.bool u1, .slice A1 T1.length c1], .agg #[.bool u2, .slice A2 T2.length c2]] w fun e w' => e = .returned (.bool true) ∧ Below w.heap.size w w' := by
  have HT1 := vl ht1
  have HT2 := vl ht2
  have HB0 := vl (((Below.refl w.heap.size w).alloc (Nat.le_refl _) (.cells #[.bool u1, .slice A1 T1.length c1] 58)).alloc (by simp) (.cells #[.bool u2, .slice A2 T2.length c2] 58))
  have HX0 := vl ((TBox.new w u1 A1 T1.length c1 58).below ((Below.refl _ _).alloc (Nat.le_refl _) (.cells #[.bool u2, .slice A2 T2.length c2] 58)))
  have HY0 := vl (show TBox ((w.alloc (.cells #[.bool u1, .slice A1 T1.length c1] 58)).alloc (.cells #[.bool u2, .slice A2 T2.length c2] 58)) (w.heap.size + 1) u2 A2 T2.length c2 from by have := TBox.new (w.alloc (.cells #[.bool u1, .slice A1 T1.length c1] 58)) u2 A2 T2.length c2 58; simpa using this)
  have HT0 := vl (show ArgT ((w.alloc (.cells #[.bool u1, .slice A1 T1.length c1] 58)).alloc (.cells #[.bool u2, .slice A2 T2.length c2] 58)) A1 T1 from ⟨ht1.len, ht1.row, ht1.src.below HB0.out⟩)
  obtain ⟨x0, x1⟩ := HX0.out
  obtain ⟨y0, y1⟩ := HY0.out
  clear ht1 ht2
  by_cases hbig : (1048576 : Int) < (szT T1 : Int)
  · go_enter Try.func15, Try.ntmps15
    go_wp2_with fail
    refine (szTrain_no u1 A1 c1 T1 _ _ (by omega) (by omega) HT0.out hbig).mono ?_
    rintro e w1 ⟨rfl, hb1⟩
    have HB1 := vl (HB0.out.trans (hb1.mono HB0.out.size))
    clear hb1
    go_wp2
    go_ret
    exact ⟨rfl, HB1.out⟩
  have hsz : (szT T1 : Int) ≤ 1048576 := by omega
  have HM1 := vl (mod_of hsz)
  have hn1 := HM1.out.rows
  have HR1 := vl (fun r (hr : r ∈ T1) => HM1.out.row hr)
  clear hbig
  have hl0 : (0 : Int) ≤ 1048576 - (szT T1 : Int) := by omega
  go_enter Try.func15, Try.ntmps15
  go_wp2_with fail
  refine (szTrain_yes u1 A1 c1 T1 _ _ (by omega) HT0.out hsz).mono ?_
  rintro e w1 ⟨rfl, hb1⟩
  have HB1 := vl (HB0.out.trans (hb1.mono HB0.out.size))
  have HX1 := vl (HX0.out.below hb1)
  have HY1 := vl (HY0.out.below hb1)
  clear hb1 x0 x1 y0 y1
  obtain ⟨y0, y1⟩ := HY1.out
  have HT1' := vl (show ArgT w1 A2 T2 from ⟨HT2.out.len, HT2.out.row, HT2.out.src.below HB1.out⟩)
  by_cases hbig : 1048576 - (szT T1 : Int) < (szT T2 : Int)
  · go_wp2_with fail
    refine (szTrain_no u2 A2 c2 T2 _ _ (by omega) (by omega) HT1'.out hbig).mono ?_
    rintro e w2 ⟨rfl, hb2⟩
    have HB2 := vl (HB1.out.trans (hb2.mono HB1.out.size))
    clear hb2
    go_wp2
    go_ret
    exact ⟨rfl, HB2.out⟩
  have hsz2 : (szT T2 : Int) ≤ 1048576 - (szT T1 : Int) := by omega
  have HM2 := vl (mod_of (T := T2) (by omega))
  have hn2 := HM2.out.rows
  have HR2 := vl (fun r (hr : r ∈ T2) => HM2.out.row hr)
  have HM12 := vl (mod_join (T1 := T1) (T2 := T2) (by omega))
  have hl1 : (0 : Int) ≤ 1048576 - (szT T1 : Int) - (szT T2 : Int) := by omega
  clear hbig
  go_wp2_with fail
  refine (szTrain_yes u2 A2 c2 T2 _ _ (by omega) HT1'.out hsz2).mono ?_
  rintro e w2 ⟨rfl, hb2⟩
  have HB2 := vl (HB1.out.trans (hb2.mono HB1.out.size))
  have HX2 := vl (HX1.out.below hb2)
  have HY2 := vl (HY1.out.below hb2)
  clear hb2 y0 y1 HT0 HT1' HX0 HX1 HY0 HY1
  clear hsz hsz2
  have HM := vl (couT_mod (u1 := u1) (u2 := u2) HM12.out)
  obtain ⟨u, hu⟩ : ∃ u, u = couU u1 u2 T1 T2 := ⟨_, rfl⟩
  obtain ⟨q, hq⟩ : ∃ q, q = couB u1 u2 T1 T2 := ⟨_, rfl⟩
  obtain ⟨S, hS⟩ : ∃ S, S = couT u1 u2 T1 T2 := ⟨_, rfl⟩
  have HI := vl (And.intro hu (And.intro hq hS))
  rw [← hS] at HM
  clear hu hq hS
  have q20 := HY2.out.lt
  go_upto_region 8 with fail
  go_cut [6, 7] (fun s0 s1 wx => ∃ b : Nat, s0 = .pointer (some ⟨b, 0, none⟩) ∧ s1 = .bool q ∧ Veil (Spot wx w2.heap.size b u S) ∧ Veil (Below w2.heap.size w2 wx))
  case first =>
    obtain ⟨x0, x1⟩ := HX2.out
    obtain ⟨y0, y1⟩ := HY2.out
    have S2 : A4 w2 w.heap.size u1 A1 T1.length c1 u2 A2 T2.length c2 := ⟨x0, x1, y0, y1⟩
    have q2 : w.heap.size + 2 ≤ w2.heap.size := by have := cell_lt' y1; simp at this; omega
    go_region_held3 (fun w' => w'.cell? ⟨w.heap.size, 0, none⟩ = some (.bool u1) ∧ w'.cell? ⟨w.heap.size, 1, none⟩ = some (.slice A1 T1.length c1) ∧ w'.cell? ⟨w.heap.size + 1, 0, none⟩ = some (.bool u2) ∧ w'.cell? ⟨w.heap.size + 1, 1, none⟩ = some (.slice A2 T2.length c2))
      (first | (with_reducible assumption) | (with_reducible exact S5.alloc _) | (with_reducible exact S4.alloc _) | (with_reducible exact S3.alloc _) | (with_reducible exact S2.alloc _) | (with_reducible exact S2.drew) | (with_reducible exact (S2.alloc _).drew) | (with_reducible exact S2.drew.alloc _) | (with_reducible refine S5.set2 ?_ _ _; omega) | (with_reducible refine S5.set1 ?_ _; omega) | go_keep)
      (first
        | (go_at_call 65
           with_reducible refine (couple_spec' u1 u2 A3 A4 c3 c4 T1 T2 _ HI.out HM1.out HM2.out HM12.out (by first | exact HP3b.out | exact HP3b.out.alloc _) (by first | exact HP4.out | exact HP4.out.alloc _)).mono ?_
           rintro e w5 ⟨⟨A5, c5, g5, G5, rfl, hc5, ho5⟩, hb5⟩
           have HO5 := ho5
           have hb45 : Below w4.heap.size w4 w5 := by first | exact hb5 | exact ((Below.refl w4.heap.size w4).alloc (Nat.le_refl _) _).trans (hb5.mono (by simp))
           have hb25 := hb24.trans (hb45.mono hb24.size)
           have S5 := S4.below hb45
           have z5 := hb45.size
           have z5' := hb5.size
           first
             | have HZ5 := (TBoxF.new w4 false (.slice none 0 0) 26).below hb5 (by simp)
             | have HZ5 := HZ4.below hb45 HZ4.lt
             | skip
           first
             | (have b0 := HZ5.c0; have b1 := HZ5.c1; have b2 := HZ5.f0; have b3 := HZ5.f1)
             | skip
           clear ho5)
        | (go_at_call 53
           have hb23' := hb23
           with_reducible refine (toTrain u2 A2 c2 T2 _ hn2 HR2.out (HT2.out.src.below (HB2.out.trans (Below.mono (by first | exact hb23 | exact hb23.alloc hb23.size _) HB2.out.size)))).mono ?_
           rintro e w4 ⟨⟨A4, c4, g4, G4, rfl, _, ho4⟩, hb4⟩
           have HP4 := vl ho4.trn
           have hb34 : Below w3.heap.size w3 w4 := by first | exact hb4 | exact ((Below.refl w3.heap.size w3).alloc (Nat.le_refl _) _).trans (hb4.mono (by simp))
           have hb24 := hb23.trans (hb34.mono hb23.size)
           have HP3b := vl (HP3.out.below hb34)
           have S4 := S3.below hb34
           have z4 := hb34.size
           have z4' := hb4.size
           try simp at z4'
           first
             | have HZ4 := (TBoxF.new w3 false (.slice none 0 0) 26).below hb4 (by simp)
             | have HZ4 := HZ3.below hb34 HZ3.lt
             | skip
           clear ho4)
        | (go_at_call 53
           refine (toTrain u1 A1 c1 T1 _ hn1 HR1.out (HT1.out.src.below (by (repeat' (first | (with_reducible exact Below.refl _ _) | (with_reducible refine Below.drew ?_) | (with_reducible refine Below.alloc ?_ ?_ _) | (with_reducible refine Below.setCell ?_ ?_ _) | (with_reducible refine Below.trans ?_ (HB2.out.mono ?_)) | (first | omega | (simp; omega) | (simp; done))))))).mono ?_
           rintro e w3 ⟨⟨A3, c3, g3, G3, rfl, _, ho3⟩, hb3⟩
           have HP3 := vl ho3.trn
           have hb23 : Below w2.heap.size w2 w3 := by refine Below.trans ?_ (hb3.mono ?_) <;> first | (repeat' (first | (with_reducible exact Below.refl _ _) | (with_reducible refine Below.drew ?_) | (with_reducible refine Below.alloc ?_ ?_ _) | (with_reducible refine Below.setCell ?_ ?_ _) | (first | omega | (simp; omega) | (simp; done)))) | (simp; done) | (simp; omega)
           have S3 := S2.below hb23
           have z3 := hb23.size
           have z3' := hb3.size
           try simp at z3'
           first
             | have HZ3 := (TBoxF.new w2 false (.slice none 0 0) 26).below hb3 (by simp)
             | have HZ3 := TBoxF.below ((TBoxF.new w2 false (.slice none 0 0) 26).block (w' := (w2.alloc (.cells #[.bool false, .slice none 0 0] 26)).drew) rfl) hb3 (by simp)
             | skip
           clear ho3))
    all_goals
      first
        | have HF := spot_b (u := u) (c := c5) hb25 (by first | omega | (simp; omega)) (by first | exact hb5.size | omega) (by first | exact Nat.le_refl _ | omega) (by first | (simp; done) | omega | (simp; omega)) HZ5 HO5
        | have HF := spot_a (u := u) (c := c5) hb25 (by first | omega | (simp; omega)) (by first | exact hb5.size | omega) HO5
      have HF1 := vl HF.1
      have HF2 := vl HF.2
      clear HF
      go_wp2_with fail
      go_meet
      exact ⟨_, rfl, rfl, HF1, HF2⟩
  case rest =>
  obtain ⟨p5, rfl, rfl, HQ, hbc⟩ := hcut
  obtain ⟨w5a, hwc⟩ : ∃ wz, wz = wc := ⟨_, rfl⟩
  rw [← hwc] at HQ hbc ⊢
  clear hwc
  obtain ⟨A5, c5, B5, L5, g5, G5, hone, j50, j51, j52, j53, j54⟩ := HQ.out.ex
  have hbc' := hbc.out
  have h5 := hbc'.size
  clear HQ hbc
  have HW5a := vl hone
  have jp5 := hone.x.lt
  clear hone
  have HB5a := vl (HB2.out.trans (hbc'.mono HB2.out.size))
  have HX5a := vl (HX2.out.below hbc')
  have HY5a := vl (HY2.out.below hbc')
  clear hbc' HX2 HY2
  obtain ⟨x0, x1⟩ := HX5a.out
  go_wp2_with fail
  refine (toTrain u1 A1 c1 T1 _ hn1 HR1.out (HT1.out.src.below HB5a.out)).mono ?_
  rintro e w6 ⟨⟨A6, c6, g6, G6, rfl, hc6, ho6⟩, hb6⟩
  have h6 := hb6.size
  clear x0 x1
  have HB6 := vl (HB5a.out.trans (hb6.mono HB5a.out.size))
  have HX6 := vl (HX5a.out.below hb6)
  have HY6 := vl (HY5a.out.below hb6)
  have HW6 := vl (HW5a.out.below hb6)
  clear hb6 HX5a HY5a HW5a
  have hba := (Below.refl w6.heap.size w6).alloc (Nat.le_refl _) (.cells #[.bool u1, .slice A6 T1.length c6] 26)
  have HB6a := vl (HB6.out.trans (hba.mono HB6.out.size))
  have HX6a := vl (HX6.out.below hba)
  have HY6a := vl (HY6.out.below hba)
  have HW6a := vl (HW6.out.below hba)
  have HP6a : Veil (One (w6.alloc (.cells #[.bool u1, .slice A6 T1.length c6] 26)) w6.heap.size u1 A6 T1.length c6 w5a.heap.size w6.heap.size T1 g6 G6) := vl ⟨TBox.new w6 u1 A6 T1.length c6 26, ho6.below hba⟩
  clear hba ho6 HX6 HY6 HW6
  generalize hW6 : w6.alloc (.cells #[.bool u1, .slice A6 T1.length c6] 26) = W6 at HB6a HX6a HY6a HW6a HP6a
  have s6 : W6.heap.size = w6.heap.size + 1 := by rw [← hW6]; simp
  obtain ⟨y0, y1⟩ := HY6a.out
  go_wp2_with fail
  clear hW6
  refine (toTrain u2 A2 c2 T2 _ hn2 HR2.out (HT2.out.src.below HB6a.out)).mono ?_
  rintro e w7 ⟨⟨A7, c7, g7, G7, rfl, hc7, ho7⟩, hb7⟩
  have h7 := hb7.size
  clear y0 y1
  have HB7 := vl (HB6a.out.trans (hb7.mono HB6a.out.size))
  have HX7 := vl (HX6a.out.below hb7)
  have HY7 := vl (HY6a.out.below hb7)
  have HW7 := vl (HW6a.out.below hb7)
  have HP7 := vl (HP6a.out.below hb7)
  clear hb7 HX6a HY6a HW6a HP6a
  have hba := (Below.refl w7.heap.size w7).alloc (Nat.le_refl _) (.cells #[.bool u2, .slice A7 T2.length c7] 26)
  have HB7a := vl (HB7.out.trans (hba.mono HB7.out.size))
  have HX7a := vl (HX7.out.below hba)
  have HY7a := vl (HY7.out.below hba)
  have HW7a := vl (HW7.out.below hba)
  have HP7a := vl (HP7.out.below hba)
  have HQ7a : Veil (One (w7.alloc (.cells #[.bool u2, .slice A7 T2.length c7] 26)) w7.heap.size u2 A7 T2.length c7 W6.heap.size w7.heap.size T2 g7 G7) := vl ⟨TBox.new w7 u2 A7 T2.length c7 26, ho7.below hba⟩
  clear hba ho7 HX7 HY7 HW7 HP7
  generalize hW7 : w7.alloc (.cells #[.bool u2, .slice A7 T2.length c7] 26) = W7 at HB7a HX7a HY7a HW7a HP7a HQ7a
  have s7 : W7.heap.size = w7.heap.size + 1 := by rw [← hW7]; simp
  obtain ⟨p0, p1⟩ := HP7a.out.x
  obtain ⟨q0, q1⟩ := HQ7a.out.x
  go_wp2_with fail
  clear hW7
  refine (couple_impl' u1 u2 A6 A7 c6 c7 T1 T2 _ HI.out HM1.out HM2.out HM12.out HP7a.out.o.trn HQ7a.out.o.trn).mono ?_
  rintro e w8 ⟨⟨A8, c8, g8, G8, rfl, hc8, ho8⟩, hb8⟩
  have h8 := hb8.size
  clear p0 p1 q0 q1
  have HB8 := vl (HB7a.out.trans (hb8.mono HB7a.out.size))
  have HX8 := vl (HX7a.out.below hb8)
  have HY8 := vl (HY7a.out.below hb8)
  have HW8 := vl (HW7a.out.below hb8)
  have HP8 := vl (HP7a.out.below hb8)
  have HQ8 := vl (HQ7a.out.below hb8)
  clear hb8 HX7a HY7a HW7a HP7a HQ7a
  have hba := (Below.refl w8.heap.size w8).alloc (Nat.le_refl _) (.cells #[.bool u, .slice A8 S.length c8] 26)
  have HB8a := vl (HB8.out.trans (hba.mono HB8.out.size))
  have HX8a := vl (HX8.out.below hba)
  have HY8a := vl (HY8.out.below hba)
  have HW8a := vl (HW8.out.below hba)
  have HP8a := vl (HP8.out.below hba)
  have HQ8a := vl (HQ8.out.below hba)
  have HG8a : Veil (One (w8.alloc (.cells #[.bool u, .slice A8 S.length c8] 26)) w8.heap.size u A8 S.length c8 W7.heap.size w8.heap.size S g8 G8) := vl ⟨TBox.new w8 u A8 S.length c8 26, ho8.below hba⟩
  clear hba ho8 HX8 HY8 HW8 HP8 HQ8
  generalize hW8 : w8.alloc (.cells #[.bool u, .slice A8 S.length c8] 26) = W8 at HB8a HX8a HY8a HW8a HP8a HQ8a HG8a
  have s8 : W8.heap.size = w8.heap.size + 1 := by rw [← hW8]; simp
  obtain ⟨a0, a1⟩ := HW8a.out.x
  obtain ⟨b0, b1⟩ := HG8a.out.x
  go_wp2_with fail
  clear hW8
  refine (eqTrain u _ _ _ _ S _ HM.out.rows (fun r hr => HM.out.row hr) HG8a.out.o.trn HW8a.out.o.trn).mono ?_
  rintro e w9 ⟨rfl, hb9⟩
  have h9 := hb9.size
  clear a0 a1 b0 b1
  have HB9 := vl (HB8a.out.trans (hb9.mono HB8a.out.size))
  have HX9 := vl (HX8a.out.below hb9)
  have HY9 := vl (HY8a.out.below hb9)
  have HW9 := vl (HW8a.out.below hb9)
  have HP9 := vl (HP8a.out.below hb9)
  have HQ9 := vl (HQ8a.out.below hb9)
  have HG9 := vl (HG8a.out.below hb9)
  clear hb9 HX8a HY8a HW8a HP8a HQ8a HG8a
  obtain ⟨x0, x1⟩ := HX9.out
  obtain ⟨y0, y1⟩ := HP9.out.x
  go_wp2
  go_region_held3 (fun w' => w'.cell? ⟨w.heap.size, 0, none⟩ = some (.bool u1) ∧ w'.cell? ⟨w.heap.size, 1, none⟩ = some (.slice A1 T1.length c1) ∧ w'.cell? ⟨w6.heap.size, 0, none⟩ = some (.bool u1) ∧ w'.cell? ⟨w6.heap.size, 1, none⟩ = some (.slice A6 T1.length c6) ∧ Below w9.heap.size w9 w')
    (first | exact ⟨x0, x1, y0, y1, Below.refl _ _⟩ | exact ⟨x0, x1, y0, y1, (Below.refl _ _).drew⟩ | assumption)
    (first
      | (go_at_call 53; obtain ⟨a0, a1, a2, a3, hb7⟩ : _ ∧ _ ∧ _ ∧ _ ∧ Below w9.heap.size w9 _ := by assumption
         refine (toTrain u1 A1 c1 T1 _ hn1 HR1.out (HT1.out.src.below (HB9.out.trans (hb7.mono HB9.out.size)))).mono ?_
         rintro e w' ⟨⟨A9, c9, g9, G9, rfl, _, ho9⟩, hb'⟩
         have HO9' := vl ho9.trn
         have S1' := And.intro ((hb'.cell (cell_lt' a0)).trans a0) (And.intro ((hb'.cell (cell_lt' a1)).trans a1) (And.intro ((hb'.cell (cell_lt' a2)).trans a2) (And.intro ((hb'.cell (cell_lt' a3)).trans a3) (hb7.trans (hb'.mono hb7.size)))))
         clear ho9 hb')
      | (go_at_call 54; obtain ⟨a0, a1, a2, a3, hb7⟩ : _ ∧ _ ∧ _ ∧ _ ∧ Below w9.heap.size w9 _ := by assumption
         with_reducible refine (eqTrain u1 _ _ _ _ T1 _ hn1 HR1.out (HP9.out.o.trn.below hb7) HO9'.out).mono ?_
         rintro e w' ⟨rfl, hb'⟩
         have S1' := And.intro ((hb'.cell (cell_lt' a0)).trans a0) (And.intro ((hb'.cell (cell_lt' a1)).trans a1) (And.intro ((hb'.cell (cell_lt' a2)).trans a2) (And.intro ((hb'.cell (cell_lt' a3)).trans a3) (hb7.trans (hb'.mono hb7.size)))))
         clear hb'))
  obtain ⟨z0, z1, z2, z3, hb10⟩ : _ ∧ _ ∧ _ ∧ _ ∧ Below w9.heap.size w9 _ := by assumption
  obtain ⟨w10, hw10⟩ : ∃ w10, w10 = w' := ⟨_, rfl⟩
  rw [← hw10] at z0 z1 z2 z3 hb10 ⊢
  have h10 := hb10.size
  clear z0 z1 z2 z3 S1' hw10 x0 x1 y0 y1
  have HB10 := vl (HB9.out.trans (hb10.mono HB9.out.size))
  have HX10 := vl (HX9.out.below hb10)
  have HY10 := vl (HY9.out.below hb10)
  have HW10 := vl (HW9.out.below hb10)
  have HP10 := vl (HP9.out.below hb10)
  have HQ10 := vl (HQ9.out.below hb10)
  have HG10 := vl (HG9.out.below hb10)
  clear hb10 HX9 HY9 HW9 HP9 HQ9 HG9
  obtain ⟨x0, x1⟩ := HY10.out
  obtain ⟨y0, y1⟩ := HQ10.out.x
  go_wp2
  go_region_held3 (fun w' => w'.cell? ⟨w.heap.size + 1, 0, none⟩ = some (.bool u2) ∧ w'.cell? ⟨w.heap.size + 1, 1, none⟩ = some (.slice A2 T2.length c2) ∧ w'.cell? ⟨w7.heap.size, 0, none⟩ = some (.bool u2) ∧ w'.cell? ⟨w7.heap.size, 1, none⟩ = some (.slice A7 T2.length c7) ∧ Below w10.heap.size w10 w')
    (first | exact ⟨x0, x1, y0, y1, Below.refl _ _⟩ | exact ⟨x0, x1, y0, y1, (Below.refl _ _).drew⟩ | assumption)
    (first
      | (go_at_call 53; obtain ⟨a0, a1, a2, a3, hb7⟩ : _ ∧ _ ∧ _ ∧ _ ∧ Below w10.heap.size w10 _ := by assumption
         refine (toTrain u2 A2 c2 T2 _ hn2 HR2.out (HT2.out.src.below (HB10.out.trans (hb7.mono HB10.out.size)))).mono ?_
         rintro e w' ⟨⟨A9, c9, g9, G9, rfl, _, ho9⟩, hb'⟩
         have HO9' := vl ho9.trn
         have S1' := And.intro ((hb'.cell (cell_lt' a0)).trans a0) (And.intro ((hb'.cell (cell_lt' a1)).trans a1) (And.intro ((hb'.cell (cell_lt' a2)).trans a2) (And.intro ((hb'.cell (cell_lt' a3)).trans a3) (hb7.trans (hb'.mono hb7.size)))))
         clear ho9 hb')
      | (go_at_call 54; obtain ⟨a0, a1, a2, a3, hb7⟩ : _ ∧ _ ∧ _ ∧ _ ∧ Below w10.heap.size w10 _ := by assumption
         with_reducible refine (eqTrain u2 _ _ _ _ T2 _ hn2 HR2.out (HQ10.out.o.trn.below hb7) HO9'.out).mono ?_
         rintro e w' ⟨rfl, hb'⟩
         have S1' := And.intro ((hb'.cell (cell_lt' a0)).trans a0) (And.intro ((hb'.cell (cell_lt' a1)).trans a1) (And.intro ((hb'.cell (cell_lt' a2)).trans a2) (And.intro ((hb'.cell (cell_lt' a3)).trans a3) (hb7.trans (hb'.mono hb7.size)))))
         clear hb'))
  obtain ⟨z0, z1, z2, z3, hb11⟩ : _ ∧ _ ∧ _ ∧ _ ∧ Below w10.heap.size w10 _ := by assumption
  obtain ⟨w11, hw11⟩ : ∃ w11, w11 = w' := ⟨_, rfl⟩
  rw [← hw11] at z0 z1 z2 z3 hb11 ⊢
  have h11 := hb11.size
  clear z0 z1 z2 z3 S1' hw11 x0 x1 y0 y1
  have HB11 := vl (HB10.out.trans (hb11.mono HB10.out.size))
  have HX11 := vl (HX10.out.below hb11)
  have HY11 := vl (HY10.out.below hb11)
  have HW11 := vl (HW10.out.below hb11)
  have HP11 := vl (HP10.out.below hb11)
  have HQ11 := vl (HQ10.out.below hb11)
  have HG11 := vl (HG10.out.below hb11)
  clear hb11 HX10 HY10 HW10 HP10 HQ10 HG10
  obtain ⟨K1, hK1⟩ : ∃ K1, K1 = 1 + 6 * (bts T1).length := ⟨_, rfl⟩
  have ha1 := HM1.out.all
  have hK1b : K1 ≤ 50000000 := by omega
  obtain ⟨K2, hK2⟩ : ∃ K2, K2 = K1 + 6 * (bts T2).length := ⟨_, rfl⟩
  have hz2 : (0 : Int) ≤ (K2 : Int) := by omega
  obtain ⟨K3, hK3⟩ : ∃ K3, K3 = 1 + 6 * (bts S).length := ⟨_, rfl⟩
  have hz3 : (0 : Int) ≤ (K3 : Int) := by omega
  have HK1 := vl hK1
  have HK2 := vl hK2
  have HK3 := vl hK3
  clear hK1 hK2 hK3
  obtain ⟨p0, p1⟩ := HP11.out.x
  have e12 := HP11.out.x.lt
  go_wp2_with fail
  refine (markTrain u1 A6 c6 1 T1 _ HM1.out (by omega) HP11.out.o (by omega)).mono ?_
  rintro e w12 ⟨he, ho12, ht12⟩
  rw [← HK1.out] at he
  subst he
  have h12 := ht12.size
  have HB12 := vl (ht12.below HB11.out (by omega))
  have HX12 := vl (HX11.out.touch ht12 (Or.inl (by omega)))
  have HY12 := vl (HY11.out.touch ht12 (Or.inl (by omega)))
  have HW12 := vl (HW11.out.touch ht12 (by omega) (by omega))
  have HP12 := vl (HP11.out.mark ht12 (by omega) ho12)
  have HQ12 := vl (HQ11.out.touch ht12 (by omega) (by omega))
  have HG12 := vl (HG11.out.touch ht12 (by omega) (by omega))
  clear ht12 ho12 p0 p1 HX11 HY11 HW11 HP11 HQ11 HG11
  obtain ⟨p0, p1⟩ := HQ12.out.x
  have e13 := HQ12.out.x.lt
  go_wp2_with fail
  refine (markTrain u2 A7 c7 K1 T2 _ HM2.out (by omega) HQ12.out.o (by omega)).mono ?_
  rintro e w13 ⟨he, ho13, ht13⟩
  rw [← HK2.out] at he
  subst he
  have h13 := ht13.size
  have HB13 := vl (ht13.below HB12.out (by omega))
  have HX13 := vl (HX12.out.touch ht13 (Or.inl (by omega)))
  have HY13 := vl (HY12.out.touch ht13 (Or.inl (by omega)))
  have HW13 := vl (HW12.out.touch ht13 (by omega) (by omega))
  have HP13 := vl (HP12.out.touch ht13 (by omega) (by omega))
  have HQ13 := vl (HQ12.out.mark ht13 (by omega) ho13)
  have HG13 := vl (HG12.out.touch ht13 (by omega) (by omega))
  clear ht13 ho13 p0 p1 HX12 HY12 HW12 HP12 HQ12 HG12
  obtain ⟨a0, a1⟩ := HW13.out.x
  obtain ⟨b0, b1⟩ := HG13.out.x
  go_wp2_with fail
  refine (eqTrain u _ _ _ _ S _ HM.out.rows (fun r hr => HM.out.row hr) HG13.out.o.trn HW13.out.o.trn).mono ?_
  rintro e w14 ⟨rfl, hb14⟩
  have h14 := hb14.size
  clear a0 a1 b0 b1
  have HB14 := vl (HB13.out.trans (hb14.mono HB13.out.size))
  have HX14 := vl (HX13.out.below hb14)
  have HY14 := vl (HY13.out.below hb14)
  have HW14 := vl (HW13.out.below hb14)
  have HP14 := vl (HP13.out.below hb14)
  have HQ14 := vl (HQ13.out.below hb14)
  have HG14 := vl (HG13.out.below hb14)
  clear hb14 HX13 HY13 HW13 HP13 HQ13 HG13
  obtain ⟨p0, p1⟩ := HG14.out.x
  have e15 := HG14.out.x.lt
  go_wp2_with fail
  refine (markTrain u A8 c8 1 S _ HM.out (by omega) HG14.out.o (by omega)).mono ?_
  rintro e w15 ⟨he, ho15, ht15⟩
  rw [← HK3.out] at he
  subst he
  have h15 := ht15.size
  have HB15 := vl (ht15.below HB14.out (by omega))
  have HX15 := vl (HX14.out.touch ht15 (Or.inl (by omega)))
  have HY15 := vl (HY14.out.touch ht15 (Or.inl (by omega)))
  have HW15 := vl (HW14.out.touch ht15 (by omega) (by omega))
  have HP15 := vl (HP14.out.touch ht15 (by omega) (by omega))
  have HQ15 := vl (HQ14.out.touch ht15 (by omega) (by omega))
  have HG15 := vl (HG14.out.mark ht15 (by omega) ho15)
  clear ht15 ho15 p0 p1 HX14 HY14 HW14 HP14 HQ14 HG14
  obtain ⟨b0, b1⟩ := HG15.out.x
  go_wp2_with fail
  refine (heldTrain u A8 c8 1 S _ HM.out (by omega) HG15.out.o).mono ?_
  rintro e w16 ⟨he, hb16⟩
  rw [← HK3.out] at he
  subst he
  have h16 := hb16.size
  clear b0 b1
  have HB16 := vl (HB15.out.trans (hb16.mono HB15.out.size))
  have HX16 := vl (HX15.out.below hb16)
  have HY16 := vl (HY15.out.below hb16)
  have HW16 := vl (HW15.out.below hb16)
  have HG16 := vl (HG15.out.below hb16)
  clear hb16 HX15 HY15 HW15 HG15
  go_upto_region 31 with fail
  go_cut [15, 16] (fun s0 s1 wx => ∃ b : Nat, s0 = .pointer (some ⟨b, 0, none⟩) ∧ s1 = .bool q ∧ Veil (Spot wx w16.heap.size b u S) ∧ Veil (Below w16.heap.size w16 wx))
  case first =>
    obtain ⟨x0, x1⟩ := HX16.out
    obtain ⟨y0, y1⟩ := HY16.out
    have S2 : A4 w16 w.heap.size u1 A1 T1.length c1 u2 A2 T2.length c2 := ⟨x0, x1, y0, y1⟩
    have q2 : w.heap.size + 2 ≤ w16.heap.size := by have := cell_lt' y1; simp at this; omega
    go_region_held3 (fun w' => w'.cell? ⟨w.heap.size, 0, none⟩ = some (.bool u1) ∧ w'.cell? ⟨w.heap.size, 1, none⟩ = some (.slice A1 T1.length c1) ∧ w'.cell? ⟨w.heap.size + 1, 0, none⟩ = some (.bool u2) ∧ w'.cell? ⟨w.heap.size + 1, 1, none⟩ = some (.slice A2 T2.length c2))
      (first | (with_reducible assumption) | (with_reducible exact S5.alloc _) | (with_reducible exact S4.alloc _) | (with_reducible exact S3.alloc _) | (with_reducible exact S2.alloc _) | (with_reducible exact S2.drew) | (with_reducible exact (S2.alloc _).drew) | (with_reducible exact S2.drew.alloc _) | (with_reducible refine S5.set2 ?_ _ _; omega) | (with_reducible refine S5.set1 ?_ _; omega) | go_keep)
      (first
        | (go_at_call 28
           with_reducible refine (couple_impl' u1 u2 A3 A4 c3 c4 T1 T2 _ HI.out HM1.out HM2.out HM12.out (by first | exact HP3b.out | exact HP3b.out.alloc _) (by first | exact HP4.out | exact HP4.out.alloc _)).mono ?_
           rintro e w5 ⟨⟨A5, c5, g5, G5, rfl, hc5, ho5⟩, hb5⟩
           have HO5 := ho5
           have hb45 : Below w4.heap.size w4 w5 := by first | exact hb5 | exact ((Below.refl w4.heap.size w4).alloc (Nat.le_refl _) _).trans (hb5.mono (by simp))
           have hb25 := hb24.trans (hb45.mono hb24.size)
           have S5 := S4.below hb45
           have z5 := hb45.size
           have z5' := hb5.size
           first
             | have HZ5 := (TBoxF.new w4 false (.slice none 0 0) 26).below hb5 (by simp)
             | have HZ5 := HZ4.below hb45 HZ4.lt
             | skip
           first
             | (have b0 := HZ5.c0; have b1 := HZ5.c1; have b2 := HZ5.f0; have b3 := HZ5.f1)
             | skip
           clear ho5)
        | (go_at_call 53
           have hb23' := hb23
           with_reducible refine (toTrain u2 A2 c2 T2 _ hn2 HR2.out (HT2.out.src.below (HB16.out.trans (Below.mono (by first | exact hb23 | exact hb23.alloc hb23.size _) HB16.out.size)))).mono ?_
           rintro e w4 ⟨⟨A4, c4, g4, G4, rfl, _, ho4⟩, hb4⟩
           have HP4 := vl ho4.trn
           have hb34 : Below w3.heap.size w3 w4 := by first | exact hb4 | exact ((Below.refl w3.heap.size w3).alloc (Nat.le_refl _) _).trans (hb4.mono (by simp))
           have hb24 := hb23.trans (hb34.mono hb23.size)
           have HP3b := vl (HP3.out.below hb34)
           have S4 := S3.below hb34
           have z4 := hb34.size
           have z4' := hb4.size
           try simp at z4'
           first
             | have HZ4 := (TBoxF.new w3 false (.slice none 0 0) 26).below hb4 (by simp)
             | have HZ4 := HZ3.below hb34 HZ3.lt
             | skip
           clear ho4)
        | (go_at_call 53
           refine (toTrain u1 A1 c1 T1 _ hn1 HR1.out (HT1.out.src.below (by (repeat' (first | (with_reducible exact Below.refl _ _) | (with_reducible refine Below.drew ?_) | (with_reducible refine Below.alloc ?_ ?_ _) | (with_reducible refine Below.setCell ?_ ?_ _) | (with_reducible refine Below.trans ?_ (HB16.out.mono ?_)) | (first | omega | (simp; omega) | (simp; done))))))).mono ?_
           rintro e w3 ⟨⟨A3, c3, g3, G3, rfl, _, ho3⟩, hb3⟩
           have HP3 := vl ho3.trn
           have hb23 : Below w16.heap.size w16 w3 := by refine Below.trans ?_ (hb3.mono ?_) <;> first | (repeat' (first | (with_reducible exact Below.refl _ _) | (with_reducible refine Below.drew ?_) | (with_reducible refine Below.alloc ?_ ?_ _) | (with_reducible refine Below.setCell ?_ ?_ _) | (first | omega | (simp; omega) | (simp; done)))) | (simp; done) | (simp; omega)
           have S3 := S2.below hb23
           have z3 := hb23.size
           have z3' := hb3.size
           try simp at z3'
           first
             | have HZ3 := (TBoxF.new w16 false (.slice none 0 0) 26).below hb3 (by simp)
             | have HZ3 := TBoxF.below ((TBoxF.new w16 false (.slice none 0 0) 26).block (w' := (w16.alloc (.cells #[.bool false, .slice none 0 0] 26)).drew) rfl) hb3 (by simp)
             | skip
           clear ho3))
    all_goals
      first
        | have HF := spot_b (u := u) (c := c5) hb25 (by first | omega | (simp; omega)) (by first | exact hb5.size | omega) (by first | exact Nat.le_refl _ | omega) (by first | (simp; done) | omega | (simp; omega)) HZ5 HO5
        | have HF := spot_a (u := u) (c := c5) hb25 (by first | omega | (simp; omega)) (by first | exact hb5.size | omega) HO5
      have HF1 := vl HF.1
      have HF2 := vl HF.2
      clear HF
      go_wp2_with fail
      go_meet
      exact ⟨_, rfl, rfl, HF1, HF2⟩
  case rest =>
  obtain ⟨p19, rfl, rfl, HQ, hbc⟩ := hcut
  obtain ⟨w19a, hwc⟩ : ∃ wz, wz = wc := ⟨_, rfl⟩
  rw [← hwc] at HQ hbc ⊢
  clear hwc
  obtain ⟨A19, c19, B19, L19, g19, G19, hone, j190, j191, j192, j193, j194⟩ := HQ.out.ex
  have hbc' := hbc.out
  have h19 := hbc'.size
  clear HQ hbc
  have HH19a := vl hone
  have jp19 := hone.x.lt
  clear hone
  have HB19a := vl (HB16.out.trans (hbc'.mono HB16.out.size))
  have HX19a := vl (HX16.out.below hbc')
  have HY19a := vl (HY16.out.below hbc')
  have HW19a := vl (HW16.out.below hbc')
  have HG19a := vl (HG16.out.below hbc')
  clear hbc' HX16 HY16 HW16 HG16
  obtain ⟨a0, a1⟩ := HW19a.out.x
  obtain ⟨b0, b1⟩ := HH19a.out.x
  go_wp2_with fail
  refine (eqTrain u _ _ _ _ S _ HM.out.rows (fun r hr => HM.out.row hr) HH19a.out.o.trn HW19a.out.o.trn).mono ?_
  rintro e w20 ⟨rfl, hb20⟩
  have h20 := hb20.size
  clear a0 a1 b0 b1
  have HB20 := vl (HB19a.out.trans (hb20.mono HB19a.out.size))
  have HX20 := vl (HX19a.out.below hb20)
  have HY20 := vl (HY19a.out.below hb20)
  have HW20 := vl (HW19a.out.below hb20)
  have HG20 := vl (HG19a.out.below hb20)
  have HH20 := vl (HH19a.out.below hb20)
  clear hb20 HX19a HY19a HW19a HG19a HH19a
  obtain ⟨b0, b1⟩ := HG20.out.x
  go_wp2_with fail
  refine (heldTrain u A8 c8 1 S _ HM.out (by omega) HG20.out.o).mono ?_
  rintro e w21 ⟨he, hb21⟩
  rw [← HK3.out] at he
  subst he
  have h21 := hb21.size
  clear b0 b1
  have HB21 := vl (HB20.out.trans (hb21.mono HB20.out.size))
  have HG21 := vl (HG20.out.below hb21)
  clear hb21 HG20
  go_wp2
  go_ret
  exact ⟨rfl, HB21.out⟩

theorem parOk : Try.f15.params.toList.all (fun t => Try.prog.readableRec t && decide (t < Try.prog.types.size)) = true := by kernel_rfl
set_option maxRecDepth 100000 in
theorem lifted (os : Os) (started : os.Started) (H : Type) (enc : TypeId × Value → H) :
    ReturnsInHanded {} Try.checked os 15 .any (Rows.fnExactCoupleTrainsSpec.pre6 enc Try.prog Try.f15 Rows.fnExactCoupleTrainsRow.domain false) (Rows.fnExactCoupleTrainsSpec.post enc Try.prog Try.f15 false true false false) := by
  refine law_lifted (C := Try.checked) own started (by kernel_rfl) Try.func15 laid (fun t ht => by
      have h := List.all_eq_true.1 parOk t ht
      rw [Bool.and_eq_true] at h
      exact ⟨h.1, of_decide_eq_true h.2⟩) rfl Try.underlying4 rfl
    (fun xs hx => by
      rw [show Try.f15.params.toList.length = 2 from by rw [Try.params15]; rfl] at hx
      match xs, hx with
      | [d0, d1], _ => rfl)
    (ChangeSpec.witness6 (enc := enc) (C := Try.checked) false ⟨#[], #[.agg #[.bool false, .slice none 0 0], .agg #[.bool false, .slice none 0 0]], []⟩ 8 (by kernel_rfl) (by kernel_rfl) (by kernel_rfl) (by kernel_rfl)) ?_
  intro W base args ds p hval0 hA0 _
  have hval : ∀ (j : Nat) t v, Try.f15.params[j]? = some t → args[j]? = some v → Value.okWide Try.prog W .any base t v := hval0
  have hA : DataW.TrodAll enc Try.prog W 0 (fun _ => true) true Try.f15.params.toList args.toList ds p := hA0
  clear hA0 hval0
  rw [Try.params15] at hA hval
  obtain ⟨v0, vs0, d0, ds0, p0, q0, hargs, rfl, rfl, h0, r0⟩ := trodAll_cons hA
  obtain ⟨v1, vs1, d1, ds1, p1, q1, rfl, rfl, rfl, h1, r1⟩ := trodAll_cons r0
  obtain ⟨rfl, rfl, rfl⟩ := trodAll_nil r1
  obtain rfl : args = #[v0, v1] := by cases args; simp_all
  obtain ⟨up0, A0, c0, T0, rfl, x0⟩ := open_train (hval 0 58 _ rfl rfl) h0
  obtain ⟨up1, A1, c1, T1, rfl, x1⟩ := open_train (hval 1 58 _ rfl rfl) h1
  exact walk up0 A0 c0 T0 up1 A1 c1 T1 W x0 x1

/-- The statement. -/
theorem proved : Rows.FnExactCoupleTrainsSaid :=
  OpenClaim.holds_of_wide 15 Try.f15 rfl rfl rfl rfl rfl rfl rfl ⟨rfl, rfl, rfl, rfl, rfl⟩ rfl rfl rfl rfl rfl (by kernel_rfl) Try.func15 (by show joinedFacts Try.prog _ _ _ _ = true; unfold joinedFacts; rw [Io.mayEnter, Io.liftsFinal, Io.make]; kernel_rfl)
    (of_decide_eq_true (by kernel_rfl)) (by unfold Func.isWrapper; first | (rw [if_pos (by decide +kernel)]; kernel_rfl) | (rw [if_neg (by decide +kernel)]; exact ⟨rfl, rfl⟩))
    (fun os started H enc _ => lifted os started H enc)
#print axioms proved
end Go.Proofs.Ytmfeleocjmdooaa.fnExactCoupleTrains
