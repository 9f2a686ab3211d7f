/-
  For every input the Go function 'laws.FnExactShutGate' returns true, and each argument reads afterwards as it read before. No further condition.
-/
import Derived.Test.YtmfeleocjmdooaaLkE
import Derived.Test.YtmfeleocjmdooaaLkK
import Derived.Test.YtmfeleocjmdooaaLkW
import Derived.Test.YtmfeleocjmdooaaLift
import Derived.Test.YtmfeleocjmdooaaIo
import Derived.Test.YtmfeleocjmdooaaOpen
import Derived.ChangeMaps5
namespace Go.Proofs.Ytmfeleocjmdooaa.fnExactShutGate
open Go.Proofs.Ytmfeleocjmdooaa.C1 Go.Proofs.Ytmfeleocjmdooaa.Lift Go.Proofs.Ytmfeleocjmdooaa.Opened
open Go.ChangeShapes Go.WideShapes Go.ChangeAt Go.RowKit Go.ChangeMaps
set_option linter.unusedVariables false

set_option maxRecDepth 100000 in
set_option maxHeartbeats 4000000 in
theorem walk (k : Lk) (A : Option Addr) (c : Nat) (S : List Tr) (w : World) (ht : ArgTs w A S) :
    Calls Try.prog 21 #[.agg #[.int .i64 k.le, .int .i64 k.wi, .int .i64 k.sa, .int .i64 k.sb, .int .i64 k.ba, .int .i64 k.ar, .int .i64 k.ra, .int .i64 k.wa, .int .i64 k.ga, .slice A S.length c]] w fun e w' => e = .returned (.bool true) ∧ Below w.heap.size w w' := by
  have HT := vl ht
  have HB0 := vl ((Below.refl w.heap.size w).alloc (Nat.le_refl _) (.cells #[.int .i64 k.le, .int .i64 k.wi, .int .i64 k.sa, .int .i64 k.sb, .int .i64 k.ba, .int .i64 k.ar, .int .i64 k.ra, .int .i64 k.wa, .int .i64 k.ga, .slice A S.length c] 68))
  have HX0 := vl (KBox.new w k (.slice A S.length c) 68)
  have HT0 := vl (ht.below HB0.out)
  have hxl := HX0.out.lt
  obtain ⟨x0, x1, x2, x3, x4, x5, x6, x7, x8, x9⟩ := HX0.out
  clear ht
  by_cases hbig : (1048576 : Int) < (szS S : Int)
  · go_enter Try.func21, Try.ntmps21
    go_wp2_with fail
    refine (szLock_no k A c S _ _ (by omega) (by omega) HT0.out hbig).mono ?_
    rintro e w1 ⟨rfl, hb1⟩
    have HB1 := vl (HB0.out.trans (hb1.mono HB0.out.size))
    clear hb1
    go_wp2
    go_ret
    exact ⟨rfl, HB1.out⟩
  have hsz : (szS S : Int) ≤ 1048576 := by omega
  have HM := vl (mods_of hsz)
  clear hbig
  obtain ⟨k2, hk2⟩ : ∃ k2, shutK k S = k2 := ⟨_, rfl⟩
  have HSp : Veil (∀ A c w, Trs w A S → Calls Try.prog 81 #[.agg #[.int .i64 k.le, .int .i64 k.wi, .int .i64 k.sa, .int .i64 k.sb, .int .i64 k.ba, .int .i64 k.ar, .int .i64 k.ra, .int .i64 k.wa, .int .i64 k.ga, .slice A S.length c]] w (GivesK w k2 S)) := vl fun A c w hp => by have h := shut_spec k A c S w HM.out hp; rw [hk2] at h; exact h.mono fun _ _ h => h.gives
  have HIm : Veil (∀ A c w, Trs w A S → Calls Try.prog 82 #[.agg #[.int .i64 k.le, .int .i64 k.wi, .int .i64 k.sa, .int .i64 k.sb, .int .i64 k.ba, .int .i64 k.ar, .int .i64 k.ra, .int .i64 k.wa, .int .i64 k.ga, .slice A S.length c]] w (GivesK w k2 S)) := vl fun A c w hp => by have h := shut_impl k A c S w HM.out hp; rw [hk2] at h; exact h.mono fun _ _ h => h.gives
  obtain ⟨q1, hq1⟩ : ∃ q1, kAt S 1 S.length = q1 := ⟨_, rfl⟩
  have hq0 : (0 : Int) ≤ (q1 : Int) := by omega
  have HQ1 := vl hq1
  clear hk2 hq1
  go_enter Try.func21, Try.ntmps21
  go_wp2_with fail
  refine (szLock_yes k A c S _ _ (by omega) HT0.out hsz).mono ?_
  rintro e w1 ⟨rfl, hb1⟩
  have hs1 := hb1.size
  have HB1 := vl (HB0.out.trans (hb1.mono HB0.out.size))
  have HX1 := vl (HX0.out.below hb1)
  clear hb1 x0 x1 x2 x3 x4 x5 x6 x7 x8 x9 HX0 HT0 HB0
  obtain ⟨x0, x1, x2, x3, x4, x5, x6, x7, x8, x9⟩ := HX1.out
  go_wp2_with fail
  refine (toLock k A c S _ HM.out (HT.out.below HB1.out)).mono ?_
  rintro e w2 ⟨⟨A2, c2, g2, lo2, hi2, gg2, GG2, rfl, _, ho2⟩, hb2⟩
  clear x0 x1 x2 x3 x4 x5 x6 x7 x8 x9
  have HB2 := vl (HB1.out.trans (hb2.mono HB1.out.size))
  have hs2 := hb2.size
  have HX2 := vl (HX1.out.below hb2)
  clear hb2 HX1
  have HP2 := vl ho2.trs
  clear ho2
  go_wp2_with fail
  refine (HSp.out _ _ _ HP2.out).mono ?_
  rintro e w3 ⟨⟨A3, c3, g3, lo3, hi3, gg3, GG3, rfl, _, ho3⟩, hb3⟩
  have HB3 := vl (HB2.out.trans (hb3.mono HB2.out.size))
  have hs3 := hb3.size
  have HX3 := vl (HX2.out.below hb3)
  clear hb3 HX2
  clear HP2
  have hba := (Below.refl w3.heap.size w3).alloc (Nat.le_refl _) (.cells #[.int .i64 k2.le, .int .i64 k2.wi, .int .i64 k2.sa, .int .i64 k2.sb, .int .i64 k2.ba, .int .i64 k2.ar, .int .i64 k2.ra, .int .i64 k2.wa, .int .i64 k2.ga, .slice A3 S.length c3] 73)
  have HB3a := vl (HB3.out.alloc HB3.out.size (.cells #[.int .i64 k2.le, .int .i64 k2.wi, .int .i64 k2.sa, .int .i64 k2.sb, .int .i64 k2.ba, .int .i64 k2.ar, .int .i64 k2.ra, .int .i64 k2.wa, .int .i64 k2.ga, .slice A3 S.length c3] 73))
  have HX3a := vl (HX3.out.below hba)
  have HW3a : Veil (OneK (w3.alloc (.cells #[.int .i64 k2.le, .int .i64 k2.wi, .int .i64 k2.sa, .int .i64 k2.sb, .int .i64 k2.ba, .int .i64 k2.ar, .int .i64 k2.ra, .int .i64 k2.wa, .int .i64 k2.ga, .slice A3 S.length c3] 73)) w3.heap.size k2 A3 S.length c3 w2.heap.size w3.heap.size S g3 lo3 hi3 gg3 GG3) := vl ⟨KBox.new w3 k2 (.slice A3 S.length c3) 73, ho3.below hba⟩
  clear hba ho3 HX3
  generalize hW3 : w3.alloc (.cells #[.int .i64 k2.le, .int .i64 k2.wi, .int .i64 k2.sa, .int .i64 k2.sb, .int .i64 k2.ba, .int .i64 k2.ar, .int .i64 k2.ra, .int .i64 k2.wa, .int .i64 k2.ga, .slice A3 S.length c3] 73) = W3 at HB3a HX3a HW3a
  have s3 : W3.heap.size = w3.heap.size + 1 := by rw [← hW3]; simp
  obtain ⟨x0, x1, x2, x3, x4, x5, x6, x7, x8, x9⟩ := HX3a.out
  go_wp2_with fail
  clear hW3
  refine (toLock k A c S _ HM.out (HT.out.below HB3a.out)).mono ?_
  rintro e w4 ⟨⟨A4, c4, g4, lo4, hi4, gg4, GG4, rfl, _, ho4⟩, hb4⟩
  clear x0 x1 x2 x3 x4 x5 x6 x7 x8 x9
  have HB4 := vl (HB3a.out.trans (hb4.mono HB3a.out.size))
  have hs4 := hb4.size
  have HX4 := vl (HX3a.out.below hb4)
  have HW4 := vl (HW3a.out.below hb4)
  clear hb4 HX3a HW3a
  have hba := (Below.refl w4.heap.size w4).alloc (Nat.le_refl _) (.cells #[.int .i64 k.le, .int .i64 k.wi, .int .i64 k.sa, .int .i64 k.sb, .int .i64 k.ba, .int .i64 k.ar, .int .i64 k.ra, .int .i64 k.wa, .int .i64 k.ga, .slice A4 S.length c4] 73)
  have HB4a := vl (HB4.out.alloc HB4.out.size (.cells #[.int .i64 k.le, .int .i64 k.wi, .int .i64 k.sa, .int .i64 k.sb, .int .i64 k.ba, .int .i64 k.ar, .int .i64 k.ra, .int .i64 k.wa, .int .i64 k.ga, .slice A4 S.length c4] 73))
  have HX4a := vl (HX4.out.below hba)
  have HW4a := vl (HW4.out.below hba)
  have HP4a : Veil (OneK (w4.alloc (.cells #[.int .i64 k.le, .int .i64 k.wi, .int .i64 k.sa, .int .i64 k.sb, .int .i64 k.ba, .int .i64 k.ar, .int .i64 k.ra, .int .i64 k.wa, .int .i64 k.ga, .slice A4 S.length c4] 73)) w4.heap.size k A4 S.length c4 W3.heap.size w4.heap.size S g4 lo4 hi4 gg4 GG4) := vl ⟨KBox.new w4 k (.slice A4 S.length c4) 73, ho4.below hba⟩
  clear hba ho4 HX4 HW4
  generalize hW4 : w4.alloc (.cells #[.int .i64 k.le, .int .i64 k.wi, .int .i64 k.sa, .int .i64 k.sb, .int .i64 k.ba, .int .i64 k.ar, .int .i64 k.ra, .int .i64 k.wa, .int .i64 k.ga, .slice A4 S.length c4] 73) = W4 at HB4a HX4a HW4a HP4a
  have s4 : W4.heap.size = w4.heap.size + 1 := by rw [← hW4]; simp
  obtain ⟨x0, x1, x2, x3, x4, x5, x6, x7, x8, x9⟩ := HP4a.out.x
  go_wp2_with fail
  clear hW4
  have HPt := vl HP4a.out.o.trs
  refine (HIm.out _ _ _ HPt.out).mono ?_
  rintro e w5 ⟨⟨A5, c5, g5, lo5, hi5, gg5, GG5, rfl, _, ho5⟩, hb5⟩
  have HB5 := vl (HB4a.out.trans (hb5.mono HB4a.out.size))
  have hs5 := hb5.size
  have HX5 := vl (HX4a.out.below hb5)
  have HW5 := vl (HW4a.out.below hb5)
  have HP5 := vl (HP4a.out.below hb5)
  clear hb5 HX4a HW4a HP4a
  clear HPt x0 x1 x2 x3 x4 x5 x6 x7 x8 x9
  have hba := (Below.refl w5.heap.size w5).alloc (Nat.le_refl _) (.cells #[.int .i64 k2.le, .int .i64 k2.wi, .int .i64 k2.sa, .int .i64 k2.sb, .int .i64 k2.ba, .int .i64 k2.ar, .int .i64 k2.ra, .int .i64 k2.wa, .int .i64 k2.ga, .slice A5 S.length c5] 73)
  have HB5a := vl (HB5.out.alloc HB5.out.size (.cells #[.int .i64 k2.le, .int .i64 k2.wi, .int .i64 k2.sa, .int .i64 k2.sb, .int .i64 k2.ba, .int .i64 k2.ar, .int .i64 k2.ra, .int .i64 k2.wa, .int .i64 k2.ga, .slice A5 S.length c5] 73))
  have HX5a := vl (HX5.out.below hba)
  have HW5a := vl (HW5.out.below hba)
  have HP5a := vl (HP5.out.below hba)
  have HG5a : Veil (OneK (w5.alloc (.cells #[.int .i64 k2.le, .int .i64 k2.wi, .int .i64 k2.sa, .int .i64 k2.sb, .int .i64 k2.ba, .int .i64 k2.ar, .int .i64 k2.ra, .int .i64 k2.wa, .int .i64 k2.ga, .slice A5 S.length c5] 73)) w5.heap.size k2 A5 S.length c5 W4.heap.size w5.heap.size S g5 lo5 hi5 gg5 GG5) := vl ⟨KBox.new w5 k2 (.slice A5 S.length c5) 73, ho5.below hba⟩
  clear hba ho5 HX5 HW5 HP5
  generalize hW5 : w5.alloc (.cells #[.int .i64 k2.le, .int .i64 k2.wi, .int .i64 k2.sa, .int .i64 k2.sb, .int .i64 k2.ba, .int .i64 k2.ar, .int .i64 k2.ra, .int .i64 k2.wa, .int .i64 k2.ga, .slice A5 S.length c5] 73) = W5 at HB5a HX5a HW5a HP5a HG5a
  have s5 : W5.heap.size = w5.heap.size + 1 := by rw [← hW5]; simp
  obtain ⟨x0, x1, x2, x3, x4, x5, x6, x7, x8, x9⟩ := HG5a.out.x
  obtain ⟨y0, y1, y2, y3, y4, y5, y6, y7, y8, y9⟩ := HW5a.out.x
  go_wp2_with fail
  clear hW5
  refine (eqLock k2 _ _ _ _ S _ HM.out HG5a.out.o.trs HW5a.out.o.trs).mono ?_
  rintro e w6 ⟨rfl, hb6⟩
  clear x0 x1 x2 x3 x4 x5 x6 x7 x8 x9 y0 y1 y2 y3 y4 y5 y6 y7 y8 y9
  have HB6 := vl (HB5a.out.trans (hb6.mono HB5a.out.size))
  have hs6 := hb6.size
  have HX6 := vl (HX5a.out.below hb6)
  have HW6 := vl (HW5a.out.below hb6)
  have HP6 := vl (HP5a.out.below hb6)
  have HG6 := vl (HG5a.out.below hb6)
  clear hb6 HX5a HW5a HP5a HG5a
  obtain ⟨x0, x1, x2, x3, x4, x5, x6, x7, x8, x9⟩ := HX6.out
  obtain ⟨y0, y1, y2, y3, y4, y5, y6, y7, y8, y9⟩ := HP6.out.x
  go_wp2
  go_region_held3 (fun w' => w'.cell? ⟨w.heap.size, 0, none⟩ = some (.int .i64 k.le) ∧ w'.cell? ⟨w.heap.size, 1, none⟩ = some (.int .i64 k.wi) ∧ w'.cell? ⟨w.heap.size, 2, none⟩ = some (.int .i64 k.sa) ∧ w'.cell? ⟨w.heap.size, 3, none⟩ = some (.int .i64 k.sb) ∧ w'.cell? ⟨w.heap.size, 4, none⟩ = some (.int .i64 k.ba) ∧ w'.cell? ⟨w.heap.size, 5, none⟩ = some (.int .i64 k.ar) ∧ w'.cell? ⟨w.heap.size, 6, none⟩ = some (.int .i64 k.ra) ∧ w'.cell? ⟨w.heap.size, 7, none⟩ = some (.int .i64 k.wa) ∧ w'.cell? ⟨w.heap.size, 8, none⟩ = some (.int .i64 k.ga) ∧ w'.cell? ⟨w.heap.size, 9, none⟩ = some (.slice A S.length c) ∧ w'.cell? ⟨w4.heap.size, 0, none⟩ = some (.int .i64 k.le) ∧ w'.cell? ⟨w4.heap.size, 1, none⟩ = some (.int .i64 k.wi) ∧ w'.cell? ⟨w4.heap.size, 2, none⟩ = some (.int .i64 k.sa) ∧ w'.cell? ⟨w4.heap.size, 3, none⟩ = some (.int .i64 k.sb) ∧ w'.cell? ⟨w4.heap.size, 4, none⟩ = some (.int .i64 k.ba) ∧ w'.cell? ⟨w4.heap.size, 5, none⟩ = some (.int .i64 k.ar) ∧ w'.cell? ⟨w4.heap.size, 6, none⟩ = some (.int .i64 k.ra) ∧ w'.cell? ⟨w4.heap.size, 7, none⟩ = some (.int .i64 k.wa) ∧ w'.cell? ⟨w4.heap.size, 8, none⟩ = some (.int .i64 k.ga) ∧ w'.cell? ⟨w4.heap.size, 9, none⟩ = some (.slice A4 S.length c4) ∧ Below w6.heap.size w6 w')
    (first | exact ⟨x0, x1, x2, x3, x4, x5, x6, x7, x8, x9, y0, y1, y2, y3, y4, y5, y6, y7, y8, y9, Below.refl _ _⟩ | exact ⟨x0, x1, x2, x3, x4, x5, x6, x7, x8, x9, y0, y1, y2, y3, y4, y5, y6, y7, y8, y9, (Below.refl _ _).drew⟩ | assumption)
    (first
      | (go_at_call 71; obtain ⟨a0, a1, a2, a3, a4, a5, a6, a7, a8, a9, b0, b1, b2, b3, b4, b5, b6, b7, b8, b9, hb7⟩ : _ ∧ _ ∧ _ ∧ _ ∧ _ ∧ _ ∧ _ ∧ _ ∧ _ ∧ _ ∧ _ ∧ _ ∧ _ ∧ _ ∧ _ ∧ _ ∧ _ ∧ _ ∧ _ ∧ _ ∧ Below w6.heap.size w6 _ := by assumption
         refine (toLock k A c S _ HM.out (HT.out.below (HB6.out.trans (hb7.mono HB6.out.size)))).mono ?_
         rintro e w' ⟨⟨A6, c6, g6, lo6, hi6, gg6, GG6, rfl, _, ho6⟩, hb'⟩
         have HO6 := vl ho6.trs
         have S1 := S20 ⟨a0, a1, a2, a3, a4, a5, a6, a7, a8, a9⟩ ⟨b0, b1, b2, b3, b4, b5, b6, b7, b8, b9⟩ hb7 hb'
         clear ho6 hb')
      | (go_at_call 73; obtain ⟨a0, a1, a2, a3, a4, a5, a6, a7, a8, a9, b0, b1, b2, b3, b4, b5, b6, b7, b8, b9, hb7⟩ : _ ∧ _ ∧ _ ∧ _ ∧ _ ∧ _ ∧ _ ∧ _ ∧ _ ∧ _ ∧ _ ∧ _ ∧ _ ∧ _ ∧ _ ∧ _ ∧ _ ∧ _ ∧ _ ∧ _ ∧ Below w6.heap.size w6 _ := by assumption
         refine (eqLock k _ _ _ _ S _ HM.out (HP6.out.o.trs.below hb7) HO6.out).mono ?_
         rintro e w' ⟨rfl, hb'⟩
         have S1 := S20 ⟨a0, a1, a2, a3, a4, a5, a6, a7, a8, a9⟩ ⟨b0, b1, b2, b3, b4, b5, b6, b7, b8, b9⟩ hb7 hb'
         clear hb'))
  obtain ⟨_, _, _, _, _, _, _, _, _, _, _, _, _, _, _, _, _, _, _, _, hb7⟩ : _ ∧ _ ∧ _ ∧ _ ∧ _ ∧ _ ∧ _ ∧ _ ∧ _ ∧ _ ∧ _ ∧ _ ∧ _ ∧ _ ∧ _ ∧ _ ∧ _ ∧ _ ∧ _ ∧ _ ∧ Below w6.heap.size w6 _ := by assumption
  clear S1 x0 x1 x2 x3 x4 x5 x6 x7 x8 x9 y0 y1 y2 y3 y4 y5 y6 y7 y8 y9
  obtain ⟨w7, hw7⟩ : ∃ wz, wz = w' := ⟨_, rfl⟩
  rw [← hw7] at hb7 ⊢
  clear hw7
  have HB7 := vl (HB6.out.trans (hb7.mono HB6.out.size))
  have hs7 := hb7.size
  have HX7 := vl (HX6.out.below hb7)
  have HW7 := vl (HW6.out.below hb7)
  have HP7 := vl (HP6.out.below hb7)
  have HG7 := vl (HG6.out.below hb7)
  clear hb7 HX6 HW6 HP6 HG6
  obtain ⟨x0, x1, x2, x3, x4, x5, x6, x7, x8, x9⟩ := HP7.out.x
  go_wp2_with fail
  refine (markLock1 HQ1.out HM.out _ _ _ _ HP7.out.o).mono ?_
  rintro e w8 ⟨rfl, ho8, ht8⟩
  have hs8 := ht8.size
  clear x0 x1 x2 x3 x4 x5 x6 x7 x8 x9
  have HB8 := vl (ht8.below HB7.out (by omega))
  have HX8 := vl (HX7.out.touch ht8 (by omega))
  have HW8 := vl (HW7.out.touch ht8 (by omega) (by omega))
  have HG8 := vl (HG7.out.touch ht8 (by omega) (by omega))
  have HP8 := vl (HP7.out.mark ht8 (by omega) ho8)
  clear ht8 ho8 HX7 HW7 HG7 HP7
  obtain ⟨x0, x1, x2, x3, x4, x5, x6, x7, x8, x9⟩ := HG8.out.x
  obtain ⟨y0, y1, y2, y3, y4, y5, y6, y7, y8, y9⟩ := HW8.out.x
  go_wp2_with fail
  refine (eqLock k2 _ _ _ _ S _ HM.out HG8.out.o.trs HW8.out.o.trs).mono ?_
  rintro e w9 ⟨rfl, hb9⟩
  clear x0 x1 x2 x3 x4 x5 x6 x7 x8 x9 y0 y1 y2 y3 y4 y5 y6 y7 y8 y9
  have HB9 := vl (HB8.out.trans (hb9.mono HB8.out.size))
  have hs9 := hb9.size
  have HX9 := vl (HX8.out.below hb9)
  have HW9 := vl (HW8.out.below hb9)
  have HP9 := vl (HP8.out.below hb9)
  have HG9 := vl (HG8.out.below hb9)
  clear hb9 HX8 HW8 HP8 HG8
  obtain ⟨x0, x1, x2, x3, x4, x5, x6, x7, x8, x9⟩ := HG9.out.x
  go_wp2_with fail
  refine (markLock1 HQ1.out HM.out _ _ _ _ HG9.out.o).mono ?_
  rintro e w10 ⟨rfl, ho10, ht10⟩
  have hs10 := ht10.size
  clear x0 x1 x2 x3 x4 x5 x6 x7 x8 x9
  have HB10 := vl (ht10.below HB9.out (by omega))
  have HX10 := vl (HX9.out.touch ht10 (by omega))
  have HW10 := vl (HW9.out.touch ht10 (by omega) (by omega))
  have HP10 := vl (HP9.out.touch ht10 (by omega) (by omega))
  have HG10 := vl (HG9.out.mark ht10 (by omega) ho10)
  clear ht10 ho10 HX9 HW9 HP9 HG9
  obtain ⟨x0, x1, x2, x3, x4, x5, x6, x7, x8, x9⟩ := HG10.out.x
  go_wp2_with fail
  refine (heldLock1 HQ1.out HM.out _ _ _ _ HG10.out.o).mono ?_
  rintro e w11 ⟨rfl, hb11⟩
  clear x0 x1 x2 x3 x4 x5 x6 x7 x8 x9
  have HB11 := vl (HB10.out.trans (hb11.mono HB10.out.size))
  have hs11 := hb11.size
  have HX11 := vl (HX10.out.below hb11)
  have HW11 := vl (HW10.out.below hb11)
  have HG11 := vl (HG10.out.below hb11)
  clear hb11 HX10 HW10 HG10
  obtain ⟨x0, x1, x2, x3, x4, x5, x6, x7, x8, x9⟩ := HX11.out
  go_wp2_with fail
  refine (toLock k A c S _ HM.out (HT.out.below HB11.out)).mono ?_
  rintro e w12 ⟨⟨A12, c12, g12, lo12, hi12, gg12, GG12, rfl, _, ho12⟩, hb12⟩
  clear x0 x1 x2 x3 x4 x5 x6 x7 x8 x9
  have HB12 := vl (HB11.out.trans (hb12.mono HB11.out.size))
  have hs12 := hb12.size
  have HX12 := vl (HX11.out.below hb12)
  have HW12 := vl (HW11.out.below hb12)
  have HG12 := vl (HG11.out.below hb12)
  clear hb12 HX11 HW11 HG11
  have HP12 := vl ho12.trs
  clear ho12
  go_wp2_with fail
  refine (HIm.out _ _ _ HP12.out).mono ?_
  rintro e w13 ⟨⟨A13, c13, g13, lo13, hi13, gg13, GG13, rfl, _, ho13⟩, hb13⟩
  have HB13 := vl (HB12.out.trans (hb13.mono HB12.out.size))
  have hs13 := hb13.size
  have HW13 := vl (HW12.out.below hb13)
  have HG13 := vl (HG12.out.below hb13)
  clear hb13 HW12 HG12
  clear HP12
  have hba := (Below.refl w13.heap.size w13).alloc (Nat.le_refl _) (.cells #[.int .i64 k2.le, .int .i64 k2.wi, .int .i64 k2.sa, .int .i64 k2.sb, .int .i64 k2.ba, .int .i64 k2.ar, .int .i64 k2.ra, .int .i64 k2.wa, .int .i64 k2.ga, .slice A13 S.length c13] 73)
  have HB13a := vl (HB13.out.alloc HB13.out.size (.cells #[.int .i64 k2.le, .int .i64 k2.wi, .int .i64 k2.sa, .int .i64 k2.sb, .int .i64 k2.ba, .int .i64 k2.ar, .int .i64 k2.ra, .int .i64 k2.wa, .int .i64 k2.ga, .slice A13 S.length c13] 73))
  have HW13a := vl (HW13.out.below hba)
  have HG13a := vl (HG13.out.below hba)
  have HI13a : Veil (OneK (w13.alloc (.cells #[.int .i64 k2.le, .int .i64 k2.wi, .int .i64 k2.sa, .int .i64 k2.sb, .int .i64 k2.ba, .int .i64 k2.ar, .int .i64 k2.ra, .int .i64 k2.wa, .int .i64 k2.ga, .slice A13 S.length c13] 73)) w13.heap.size k2 A13 S.length c13 w12.heap.size w13.heap.size S g13 lo13 hi13 gg13 GG13) := vl ⟨KBox.new w13 k2 (.slice A13 S.length c13) 73, ho13.below hba⟩
  clear hba ho13 HW13 HG13
  generalize hW13 : w13.alloc (.cells #[.int .i64 k2.le, .int .i64 k2.wi, .int .i64 k2.sa, .int .i64 k2.sb, .int .i64 k2.ba, .int .i64 k2.ar, .int .i64 k2.ra, .int .i64 k2.wa, .int .i64 k2.ga, .slice A13 S.length c13] 73) = W13 at HB13a HW13a HG13a HI13a
  have s13 : W13.heap.size = w13.heap.size + 1 := by rw [← hW13]; simp
  obtain ⟨x0, x1, x2, x3, x4, x5, x6, x7, x8, x9⟩ := HI13a.out.x
  obtain ⟨y0, y1, y2, y3, y4, y5, y6, y7, y8, y9⟩ := HW13a.out.x
  go_wp2_with fail
  clear hW13
  refine (eqLock k2 _ _ _ _ S _ HM.out HI13a.out.o.trs HW13a.out.o.trs).mono ?_
  rintro e w14 ⟨rfl, hb14⟩
  clear x0 x1 x2 x3 x4 x5 x6 x7 x8 x9 y0 y1 y2 y3 y4 y5 y6 y7 y8 y9
  have HB14 := vl (HB13a.out.trans (hb14.mono HB13a.out.size))
  have hs14 := hb14.size
  have HG14 := vl (HG13a.out.below hb14)
  clear hb14 HG13a
  obtain ⟨x0, x1, x2, x3, x4, x5, x6, x7, x8, x9⟩ := HG14.out.x
  go_wp2_with fail
  refine (heldLock1 HQ1.out HM.out _ _ _ _ HG14.out.o).mono ?_
  rintro e w15 ⟨rfl, hb15⟩
  clear x0 x1 x2 x3 x4 x5 x6 x7 x8 x9
  have HB15 := vl (HB14.out.trans (hb15.mono HB14.out.size))
  have hs15 := hb15.size
  have HG15 := vl (HG14.out.below hb15)
  clear hb15 HG14
  go_wp2
  go_ret
  exact ⟨rfl, HB15.out⟩

theorem parOk : Try.f21.params.toList.all (fun t => Try.prog.readableRec t && decide (t < Try.prog.types.size)) = true := by kernel_rfl
set_option maxRecDepth 100000 in
theorem lifted (os : Os) (started : os.Started) (H : Type) (enc : TypeId × Value → H) :
    ReturnsInHanded {} Try.checked os 21 .any (Rows.fnExactShutGateSpec.pre6 enc Try.prog Try.f21 Rows.fnExactShutGateRow.domain false) (Rows.fnExactShutGateSpec.post enc Try.prog Try.f21 false true false false) := by
  refine law_lifted (C := Try.checked) own started (by kernel_rfl) Try.func21 laid (fun t ht => by
      have h := List.all_eq_true.1 parOk t ht
      rw [Bool.and_eq_true] at h
      exact ⟨h.1, of_decide_eq_true h.2⟩) rfl Try.underlying4 rfl
    (fun xs hx => by
      rw [show Try.f21.params.toList.length = 1 from by rw [Try.params21]; rfl] at hx
      match xs, hx with
      | [d0], _ => rfl)
    (ChangeSpec.witness6 (enc := enc) (C := Try.checked) false ⟨#[], #[.agg #[.int .i64 0, .int .i64 0, .int .i64 0, .int .i64 0, .int .i64 0, .int .i64 0, .int .i64 0, .int .i64 0, .int .i64 0, .slice none 0 0]], []⟩ 8 (by kernel_rfl) (by kernel_rfl) (by kernel_rfl) (by kernel_rfl)) ?_
  intro W base args ds p hval0 hA0 _
  have hval : ∀ (j : Nat) t v, Try.f21.params[j]? = some t → args[j]? = some v → Value.okWide Try.prog W .any base t v := hval0
  have hA : DataW.TrodAll enc Try.prog W 0 (fun _ => true) true Try.f21.params.toList args.toList ds p := hA0
  clear hA0 hval0
  rw [Try.params21] at hA hval
  obtain ⟨v0, vs0, d0, ds0, p0, q0, hargs, rfl, rfl, h0, r0⟩ := trodAll_cons hA
  obtain ⟨rfl, rfl, rfl⟩ := trodAll_nil r0
  obtain rfl : args = #[v0] := by cases args; simp_all
  obtain ⟨k0, A0, c0, S0, rfl, x0⟩ := open_lock (hval 0 68 _ rfl rfl) h0
  exact walk k0 A0 c0 S0 W x0

/-- The statement. -/
theorem proved : Rows.FnExactShutGateSaid :=
  OpenClaim.holds_of_wide 21 Try.f21 rfl rfl rfl rfl rfl rfl rfl ⟨rfl, rfl, rfl, rfl, rfl⟩ rfl rfl rfl rfl rfl (by kernel_rfl) Try.func21 (by show joinedFacts Try.prog _ _ _ _ = true; unfold joinedFacts; rw [Io.mayEnter, Io.liftsFinal, Io.make]; kernel_rfl)
    (of_decide_eq_true (by kernel_rfl)) (by unfold Func.isWrapper; first | (rw [if_pos (by decide +kernel)]; kernel_rfl) | (rw [if_neg (by decide +kernel)]; exact ⟨rfl, rfl⟩))
    (fun os started H enc _ => lifted os started H enc)
#print axioms proved
end Go.Proofs.Ytmfeleocjmdooaa.fnExactShutGate
