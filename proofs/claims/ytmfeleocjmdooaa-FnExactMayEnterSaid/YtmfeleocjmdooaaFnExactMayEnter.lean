/-
  For every input the Go function 'laws.FnExactMayEnter' returns true, and each argument reads afterwards as it read before. No further condition.
-/
import Derived.Test.YtmfeleocjmdooaaMayI
import Derived.Test.YtmfeleocjmdooaaTrLw
import Derived.Test.YtmfeleocjmdooaaOpenR
import Derived.Test.YtmfeleocjmdooaaLkL
import Derived.Test.YtmfeleocjmdooaaLift
import Derived.Test.YtmfeleocjmdooaaIo
import Derived.Test.YtmfeleocjmdooaaOpen
import Derived.ChangeMaps5
namespace Go.Proofs.Ytmfeleocjmdooaa.fnExactMayEnter
open Go.Proofs.Ytmfeleocjmdooaa.C1 Go.Proofs.Ytmfeleocjmdooaa.Lift Go.Proofs.Ytmfeleocjmdooaa.Opened
open Go.ChangeShapes Go.WideShapes Go.ChangeAt Go.RowKit Go.ChangeMaps
set_option linter.unusedVariables false

theorem S15l {W w w' : World} {p q s : Nat} {k : Lk} {A B D C : Option Addr} {n c b d m e : Nat} {r : Rc} {up : Bool} (h : LRT w p k A n c q r B D b d s up C m e) (hb : Below W.heap.size W w) (hb' : Below w.heap.size w w') :
    w'.cell? ⟨p, 0, none⟩ = some (.int .i64 k.le) ∧ w'.cell? ⟨p, 1, none⟩ = some (.int .i64 k.wi) ∧ w'.cell? ⟨p, 2, none⟩ = some (.int .i64 k.sa) ∧ w'.cell? ⟨p, 3, none⟩ = some (.int .i64 k.sb) ∧ w'.cell? ⟨p, 4, none⟩ = some (.int .i64 k.ba) ∧ w'.cell? ⟨p, 5, none⟩ = some (.int .i64 k.ar) ∧ w'.cell? ⟨p, 6, none⟩ = some (.int .i64 k.ra) ∧ w'.cell? ⟨p, 7, none⟩ = some (.int .i64 k.wa) ∧ w'.cell? ⟨p, 8, none⟩ = some (.int .i64 k.ga) ∧ w'.cell? ⟨p, 9, none⟩ = some (.slice A n c) ∧ w'.cell? ⟨q, 0, none⟩ = some (.slice B r.n b) ∧ w'.cell? ⟨q, 1, none⟩ = some (.int .i64 r.v) ∧ w'.cell? ⟨q, 2, none⟩ = some (.slice D r.m d) ∧ w'.cell? ⟨s, 0, none⟩ = some (.bool up) ∧ w'.cell? ⟨s, 1, none⟩ = some (.slice C m e) ∧ Below W.heap.size W w' := by
  obtain ⟨⟨a0, a1, a2, a3, a4, a5, a6, a7, a8, a9⟩, ⟨b0, b1, b2⟩, c0, c1⟩ := h.below hb'
  exact ⟨a0, a1, a2, a3, a4, a5, a6, a7, a8, a9, b0, b1, b2, c0, c1, hb.trans (hb'.mono hb.size)⟩
theorem lrt_laws (k : Lk) (A : Option Addr) (c : Nat) (S : List Tr) (r : Rc) (B D : Option Addr) (b d : Nat) (up : Bool) (C : Option Addr) (e : Nat) (T : List (List Bt)) (w : World) :
    LRT (((w.alloc (.cells #[.int .i64 k.le, .int .i64 k.wi, .int .i64 k.sa, .int .i64 k.sb, .int .i64 k.ba, .int .i64 k.ar, .int .i64 k.ra, .int .i64 k.wa, .int .i64 k.ga, .slice A S.length c] 68)).alloc (.cells #[.slice B r.n b, .int .i64 r.v, .slice D r.m d] 87)).alloc (.cells #[.bool up, .slice C T.length e] 58)) w.heap.size k A S.length c (w.heap.size + 1) r B D b d (w.heap.size + 1 + 1) up C T.length e ∧ Below w.heap.size w (((w.alloc (.cells #[.int .i64 k.le, .int .i64 k.wi, .int .i64 k.sa, .int .i64 k.sb, .int .i64 k.ba, .int .i64 k.ar, .int .i64 k.ra, .int .i64 k.wa, .int .i64 k.ga, .slice A S.length c] 68)).alloc (.cells #[.slice B r.n b, .int .i64 r.v, .slice D r.m d] 87)).alloc (.cells #[.bool up, .slice C T.length e] 58)) := by
  have hb := (((Below.refl w.heap.size w).alloc (Nat.le_refl _) (.cells #[.int .i64 k.le, .int .i64 k.wi, .int .i64 k.sa, .int .i64 k.sb, .int .i64 k.ba, .int .i64 k.ar, .int .i64 k.ra, .int .i64 k.wa, .int .i64 k.ga, .slice A S.length c] 68)).alloc (by simp) (.cells #[.slice B r.n b, .int .i64 r.v, .slice D r.m d] 87)).alloc (by simp; omega) (.cells #[.bool up, .slice C T.length e] 58)
  refine ⟨⟨?_, ?_, ?_⟩, hb⟩
  · exact (((KBox.new w k (.slice A S.length c) 68).below ((Below.refl _ _).alloc (Nat.le_refl _) (.cells #[.slice B r.n b, .int .i64 r.v, .slice D r.m d] 87))).below ((Below.refl _ _).alloc (Nat.le_refl _) (.cells #[.bool up, .slice C T.length e] 58)))
  · have h := (Box.new (w.alloc (.cells #[.int .i64 k.le, .int .i64 k.wi, .int .i64 k.sa, .int .i64 k.sb, .int .i64 k.ba, .int .i64 k.ar, .int .i64 k.ra, .int .i64 k.wa, .int .i64 k.ga, .slice A S.length c] 68)) (.slice B r.n b) (.int .i64 r.v) (.slice D r.m d) 87).alloc (.cells #[.bool up, .slice C T.length e] 58)
    have h' : Box (((w.alloc (.cells #[.int .i64 k.le, .int .i64 k.wi, .int .i64 k.sa, .int .i64 k.sb, .int .i64 k.ba, .int .i64 k.ar, .int .i64 k.ra, .int .i64 k.wa, .int .i64 k.ga, .slice A S.length c] 68)).alloc (.cells #[.slice B r.n b, .int .i64 r.v, .slice D r.m d] 87)).alloc (.cells #[.bool up, .slice C T.length e] 58)) (w.heap.size + 1) (.slice B r.n b) (.int .i64 r.v) (.slice D r.m d) 87 := by simpa using h
    exact h'.at
  · have h := TBox.new ((w.alloc (.cells #[.int .i64 k.le, .int .i64 k.wi, .int .i64 k.sa, .int .i64 k.sb, .int .i64 k.ba, .int .i64 k.ar, .int .i64 k.ra, .int .i64 k.wa, .int .i64 k.ga, .slice A S.length c] 68)).alloc (.cells #[.slice B r.n b, .int .i64 r.v, .slice D r.m d] 87)) up C T.length e 58
    simpa using h
set_option maxRecDepth 100000 in
set_option maxHeartbeats 8000000 in
theorem walk (k : Lk) (A : Option Addr) (c : Nat) (S : List Tr) (r : Rc) (B D : Option Addr) (b d : Nat) (up : Bool) (C : Option Addr) (e : Nat) (T : List (List Bt)) (w : World) (ht : ArgTs w A S) (hr : ArgR w r B D) (hu : ArgT w C T) :
    Calls Try.prog 22 #[.agg #[.int .i64 k.le, .int .i64 k.wi, .int .i64 k.sa, .int .i64 k.sb, .int .i64 k.ba, .int .i64 k.ar, .int .i64 k.ra, .int .i64 k.wa, .int .i64 k.ga, .slice A S.length c], .agg #[.slice B r.n b, .int .i64 r.v, .slice D r.m d], .agg #[.bool up, .slice C T.length e]] w fun e w' => e = .returned (.bool true) ∧ Below w.heap.size w w' := by
  obtain ⟨hL, hB⟩ := lrt_laws k A c S r B D b d up C e T w
  obtain ⟨n1, n2, _, _, hsp, hsi⟩ := hr
  have HS := vl ht
  have HU := vl hu
  have HSP := vl hsp
  have HSI := vl hsi
  have HB0 := vl hB
  have HL0 := vl hL
  have HS0 := vl (ht.below hB)
  have HU0 := vl (hu.below hB)
  clear ht hu hsp hsi
  generalize hW : ((w.alloc (.cells #[.int .i64 k.le, .int .i64 k.wi, .int .i64 k.sa, .int .i64 k.sb, .int .i64 k.ba, .int .i64 k.ar, .int .i64 k.ra, .int .i64 k.wa, .int .i64 k.ga, .slice A S.length c] 68)).alloc (.cells #[.slice B r.n b, .int .i64 r.v, .slice D r.m d] 87)).alloc (.cells #[.bool up, .slice C T.length e] 58) = W at HB0 HL0 HS0 HU0
  obtain ⟨x0, x1, x2, x3, x4, x5, x6, x7, x8, x9, x10, x11, x12, x13, x14⟩ := HL0.out.all
  clear hL hB
  by_cases hbig : (1048576 : Int) < (szS S : Int)
  · go_enter Try.func22, Try.ntmps22
    go_wp2_with fail
    clear hW
    refine (szLock_no k A c S _ _ (by omega) (by omega) HS0.out hbig).mono ?_
    rintro en w1 ⟨rfl, hb1⟩
    have HB1 := vl (HB0.out.trans (hb1.mono HB0.out.size))
    clear hb1
    go_wp2
    go_ret
    exact ⟨rfl, HB1.out⟩
  have hsz : (szS S : Int) ≤ 1048576 := by omega
  have HM := vl (mods_of hsz)
  have hnn : (0 : Int) ≤ 1048576 - (szS S : Int) := by omega
  clear hbig
  go_enter Try.func22, Try.ntmps22
  go_wp2_with fail
  clear hW
  refine (szLock_yes k A c S _ _ (by omega) HS0.out hsz).mono ?_
  rintro en w1 ⟨rfl, hb1⟩
  have HB1 := vl (HB0.out.trans (hb1.mono HB0.out.size))
  have HL1 := vl (HL0.out.below hb1)
  have HU1 := vl (HU0.out.below hb1)
  clear hb1 HL0 HU0 x0 x1 x2 x3 x4 x5 x6 x7 x8 x9 x10 x11 x12 x13 x14
  obtain ⟨x0, x1, x2, x3, x4, x5, x6, x7, x8, x9, x10, x11, x12, x13, x14⟩ := HL1.out.all
  by_cases hbig2 : 1048576 - (szS S : Int) < (r.n : Int) + r.m
  · go_wp2_with fail
    refine (szReach_no _ _ _ _ _ _ _ _ _ (by omega) (by omega) n1 n2 hbig2).mono ?_
    rintro en w2 ⟨rfl, hb2⟩
    have HB2 := vl (HB1.out.trans (hb2.mono HB1.out.size))
    clear hb2
    go_wp2
    go_ret
    exact ⟨rfl, HB2.out⟩
  have hn : r.n ≤ 1048576 := by omega
  have hm : r.m ≤ 1048576 := by omega
  have hnn2 : (0 : Int) ≤ 1048576 - (szS S : Int) - (r.n : Int) - (r.m : Int) := by omega
  have hbig2' : (r.n : Int) + r.m ≤ 1048576 - (szS S : Int) := by omega
  clear hbig2 n1 n2
  go_wp2_with fail
  refine (szReach_yes _ _ _ _ _ _ _ _ _ (by omega) (by omega) hbig2').mono ?_
  rintro en w2 ⟨rfl, hb2⟩
  have HB2 := vl (HB1.out.trans (hb2.mono HB1.out.size))
  have HL2 := vl (HL1.out.below hb2)
  have HU2 := vl (HU1.out.below hb2)
  clear hb2 HL1 HU1 x0 x1 x2 x3 x4 x5 x6 x7 x8 x9 x10 x11 x12 x13 x14
  obtain ⟨x0, x1, x2, x3, x4, x5, x6, x7, x8, x9, x10, x11, x12, x13, x14⟩ := HL2.out.all
  by_cases hbig3 : 1048576 - (szS S : Int) - (r.n : Int) - (r.m : Int) < (szT T : Int)
  · go_wp2_with fail
    refine (szTrain_no up C e T _ _ (by omega) (by omega) HU2.out hbig3).mono ?_
    rintro en w3 ⟨rfl, hb3⟩
    have HB3 := vl (HB2.out.trans (hb3.mono HB2.out.size))
    clear hb3
    go_wp2
    go_ret
    exact ⟨rfl, HB3.out⟩
  have hsz3 : (szT T : Int) ≤ 1048576 - (szS S : Int) - (r.n : Int) - (r.m : Int) := by omega
  have HMT := vl (mod_of (T := T) (by omega))
  have hnt := HMT.out.rows
  have HRT := vl (fun q (hq : q ∈ T) => HMT.out.row hq)
  have hnn3 : (0 : Int) ≤ 1048576 - (szS S : Int) - (r.n : Int) - (r.m : Int) - (szT T : Int) := by omega
  clear hbig3
  go_wp2_with fail
  refine (szTrain_yes up C e T _ _ (by omega) HU2.out hsz3).mono ?_
  rintro en w3 ⟨rfl, hb3⟩
  have HB3 := vl (HB2.out.trans (hb3.mono HB2.out.size))
  have HL3 := vl (HL2.out.below hb3)
  clear hb3 HL2 HU2 hnn hnn2 hnn3 x0 x1 x2 x3 x4 x5 x6 x7 x8 x9 x10 x11 x12 x13 x14
  go_wp2
  generalize hp2 : w.heap.size + 1 + 1 = p2 at *
  generalize hp1 : w.heap.size + 1 = p1 at *
  obtain ⟨x0, x1, x2, x3, x4, x5, x6, x7, x8, x9, x10, x11, x12, x13, x14⟩ := HL3.out.all
  go_region_held3 (fun w' => w'.cell? ⟨w.heap.size, 0, none⟩ = some (.int .i64 k.le) ∧ w'.cell? ⟨w.heap.size, 1, none⟩ = some (.int .i64 k.wi) ∧ w'.cell? ⟨w.heap.size, 2, none⟩ = some (.int .i64 k.sa) ∧ w'.cell? ⟨w.heap.size, 3, none⟩ = some (.int .i64 k.sb) ∧ w'.cell? ⟨w.heap.size, 4, none⟩ = some (.int .i64 k.ba) ∧ w'.cell? ⟨w.heap.size, 5, none⟩ = some (.int .i64 k.ar) ∧ w'.cell? ⟨w.heap.size, 6, none⟩ = some (.int .i64 k.ra) ∧ w'.cell? ⟨w.heap.size, 7, none⟩ = some (.int .i64 k.wa) ∧ w'.cell? ⟨w.heap.size, 8, none⟩ = some (.int .i64 k.ga) ∧ w'.cell? ⟨w.heap.size, 9, none⟩ = some (.slice A S.length c) ∧ w'.cell? ⟨p1, 0, none⟩ = some (.slice B r.n b) ∧ w'.cell? ⟨p1, 1, none⟩ = some (.int .i64 r.v) ∧ w'.cell? ⟨p1, 2, none⟩ = some (.slice D r.m d) ∧ w'.cell? ⟨p2, 0, none⟩ = some (.bool up) ∧ w'.cell? ⟨p2, 1, none⟩ = some (.slice C T.length e) ∧ Below w3.heap.size w3 w')
    (first | exact ⟨x0, x1, x2, x3, x4, x5, x6, x7, x8, x9, x10, x11, x12, x13, x14, Below.refl _ _⟩ | exact ⟨x0, x1, x2, x3, x4, x5, x6, x7, x8, x9, x10, x11, x12, x13, x14, (Below.refl _ _).drew⟩ | assumption)
    (first
      | (go_at_call 71; obtain ⟨a0, a1, a2, a3, a4, a5, a6, a7, a8, a9, a10, a11, a12, a13, a14, hb7⟩ : _ ∧ _ ∧ _ ∧ _ ∧ _ ∧ _ ∧ _ ∧ _ ∧ _ ∧ _ ∧ _ ∧ _ ∧ _ ∧ _ ∧ _ ∧ Below w3.heap.size w3 _ := by assumption
         refine (toLock k A c S _ HM.out (HS.out.below (HB3.out.trans (hb7.mono HB3.out.size)))).mono ?_
         rintro en w' ⟨⟨A6, c6, g6, lo6, hi6, gg6, GG6, rfl, _, ho6⟩, hb'⟩
         have HOA := vl ho6.trs
         have S1 := S15l ⟨⟨a0, a1, a2, a3, a4, a5, a6, a7, a8, a9⟩, ⟨a10, a11, a12⟩, a13, a14⟩ hb7 hb'
         clear ho6 hb')
      | (go_at_call 87; obtain ⟨a0, a1, a2, a3, a4, a5, a6, a7, a8, a9, a10, a11, a12, a13, a14, hb7⟩ : _ ∧ _ ∧ _ ∧ _ ∧ _ ∧ _ ∧ _ ∧ _ ∧ _ ∧ _ ∧ _ ∧ _ ∧ _ ∧ _ ∧ _ ∧ Below w3.heap.size w3 _ := by assumption
         refine (toReach r B D b d _ hn hm (HSP.out.below (HB3.out.trans (hb7.mono HB3.out.size))) (HSI.out.below (HB3.out.trans (hb7.mono HB3.out.size)))).mono ?_
         rintro en w' ⟨⟨B7, b7, D7, d7, g7, h7, rfl, _, ho7⟩, hb'⟩
         have HOA2 := vl (HOA.out.below hb')
         have HOB := vl ho7.pts
         have HOC := vl ho7.ints
         have S2 := S15l ⟨⟨a0, a1, a2, a3, a4, a5, a6, a7, a8, a9⟩, ⟨a10, a11, a12⟩, a13, a14⟩ hb7 hb'
         clear ho7 hb')
      | (go_at_call 53; obtain ⟨a0, a1, a2, a3, a4, a5, a6, a7, a8, a9, a10, a11, a12, a13, a14, hb7⟩ : _ ∧ _ ∧ _ ∧ _ ∧ _ ∧ _ ∧ _ ∧ _ ∧ _ ∧ _ ∧ _ ∧ _ ∧ _ ∧ _ ∧ _ ∧ Below w3.heap.size w3 _ := by assumption
         refine (toTrain up C e T _ hnt HRT.out (HU.out.src.below (HB3.out.trans (hb7.mono HB3.out.size)))).mono ?_
         rintro en w' ⟨⟨C8, e8, g8, G8, rfl, _, ho8⟩, hb'⟩
         have HOA3 := vl (HOA2.out.below hb')
         have HOB3 := vl (HOB.out.below hb')
         have HOC3 := vl (HOC.out.below hb')
         have HOD := vl ho8.trn
         have S3 := S15l ⟨⟨a0, a1, a2, a3, a4, a5, a6, a7, a8, a9⟩, ⟨a10, a11, a12⟩, a13, a14⟩ hb7 hb'
         clear ho8 hb')
      | (go_at_call 86; obtain ⟨a0, a1, a2, a3, a4, a5, a6, a7, a8, a9, a10, a11, a12, a13, a14, hb7⟩ : _ ∧ _ ∧ _ ∧ _ ∧ _ ∧ _ ∧ _ ∧ _ ∧ _ ∧ _ ∧ _ ∧ _ ∧ _ ∧ _ ∧ _ ∧ Below w3.heap.size w3 _ := by assumption
         refine (may_spec k _ _ S r _ _ _ _ up _ _ T _ HM.out HOA3.out hn hm HOB3.out HOC3.out HMT.out HOD.out).mono ?_
         rintro en w' ⟨rfl, hb'⟩
         have S4 := S15l ⟨⟨a0, a1, a2, a3, a4, a5, a6, a7, a8, a9⟩, ⟨a10, a11, a12⟩, a13, a14⟩ hb7 hb'
         clear hb'))
  obtain ⟨x0, x1, x2, x3, x4, x5, x6, x7, x8, x9, x10, x11, x12, x13, x14, hb8⟩ : _ ∧ _ ∧ _ ∧ _ ∧ _ ∧ _ ∧ _ ∧ _ ∧ _ ∧ _ ∧ _ ∧ _ ∧ _ ∧ _ ∧ _ ∧ Below w3.heap.size w3 _ := by assumption
  obtain ⟨w4, hw4⟩ : ∃ w4, w4 = w' := ⟨_, rfl⟩
  rw [← hw4] at x0 x1 x2 x3 x4 x5 x6 x7 x8 x9 x10 x11 x12 x13 x14 hb8 ⊢
  have HB4 := vl (HB3.out.trans (hb8.mono HB3.out.size))
  have HL4 := vl (show LRT w4 w.heap.size k A S.length c p1 r B D b d p2 up C T.length e from ⟨⟨x0, x1, x2, x3, x4, x5, x6, x7, x8, x9⟩, ⟨x10, x11, x12⟩, x13, x14⟩)
  clear hb8 hw4 S1 S2 S3 S4 HOA HOA2 HOA3 HOB HOB3 HOC HOC3 HOD HL3
  go_wp2_with fail
  refine (toLock k A c S _ HM.out (HS.out.below HB4.out)).mono ?_
  rintro en w5 ⟨⟨A5, c5, g5, lo5, hi5, gg5, GG5, rfl, _, ho5⟩, hb5⟩
  have hba := (Below.refl w5.heap.size w5).alloc (Nat.le_refl _) (.cells #[.int .i64 k.le, .int .i64 k.wi, .int .i64 k.sa, .int .i64 k.sb, .int .i64 k.ba, .int .i64 k.ar, .int .i64 k.ra, .int .i64 k.wa, .int .i64 k.ga, .slice A5 S.length c5] 73)
  have HB5 := vl ((HB4.out.trans (hb5.mono HB4.out.size)).alloc (Nat.le_trans HB4.out.size hb5.size) (.cells #[.int .i64 k.le, .int .i64 k.wi, .int .i64 k.sa, .int .i64 k.sb, .int .i64 k.ba, .int .i64 k.ar, .int .i64 k.ra, .int .i64 k.wa, .int .i64 k.ga, .slice A5 S.length c5] 73))
  have HL5 := vl ((HL4.out.below hb5).below hba)
  have HPA5 := vl (ho5.trs.below hba)
  have HK5 := vl (KBox.new w5 k (.slice A5 S.length c5) 73)
  clear hb5 ho5 hba HL4 x0 x1 x2 x3 x4 x5 x6 x7 x8 x9 x10 x11 x12 x13 x14
  obtain ⟨x0, x1, x2, x3, x4, x5, x6, x7, x8, x9, x10, x11, x12, x13, x14⟩ := HL5.out.all
  go_wp2_with fail
  refine (toReach r B D b d _ hn hm (HSP.out.below HB5.out) (HSI.out.below HB5.out)).mono ?_
  rintro en w6 ⟨⟨B6, b6, D6, d6, g6, h6, rfl, _, ho6⟩, hb6⟩
  have hba := (Below.refl w6.heap.size w6).alloc (Nat.le_refl _) (.cells #[.slice B6 r.n b6, .int .i64 r.v, .slice D6 r.m d6] 92)
  have HB6 := vl ((HB5.out.trans (hb6.mono HB5.out.size)).alloc (Nat.le_trans HB5.out.size hb6.size) (.cells #[.slice B6 r.n b6, .int .i64 r.v, .slice D6 r.m d6] 92))
  have HL6 := vl ((HL5.out.below hb6).below hba)
  have HPA6 := vl ((HPA5.out.below hb6).below hba)
  have HK6 := vl ((HK5.out.below hb6).below hba)
  have HO6 := vl (ho6.below hba)
  have HY6 := vl (Box.new w6 (.slice B6 r.n b6) (.int .i64 r.v) (.slice D6 r.m d6) 92)
  clear hb6 ho6 hba HL5 HPA5 HK5 x0 x1 x2 x3 x4 x5 x6 x7 x8 x9 x10 x11 x12 x13 x14
  obtain ⟨x0, x1, x2, x3, x4, x5, x6, x7, x8, x9, x10, x11, x12, x13, x14⟩ := HL6.out.all
  go_wp2_with fail
  refine (toTrain up C e T _ hnt HRT.out (HU.out.src.below HB6.out)).mono ?_
  rintro en w7 ⟨⟨C7, e7, g7, G7, rfl, _, ho7⟩, hb7⟩
  have hba := (Below.refl w7.heap.size w7).alloc (Nat.le_refl _) (.cells #[.bool up, .slice C7 T.length e7] 26)
  have HB7 := vl ((HB6.out.trans (hb7.mono HB6.out.size)).alloc (Nat.le_trans HB6.out.size hb7.size) (.cells #[.bool up, .slice C7 T.length e7] 26))
  have HL7 := vl ((HL6.out.below hb7).below hba)
  have HPA7 := vl ((HPA6.out.below hb7).below hba)
  have HK7 := vl ((HK6.out.below hb7).below hba)
  have HO7 := vl ((HO6.out.below hb7).below hba)
  have HY7 := vl ((HY6.out.below hb7).below hba)
  have HPT7 := vl (ho7.trn.below hba)
  have HZ7 := vl (TBox.new w7 up C7 T.length e7 26)
  clear hb7 ho7 hba HL6 HPA6 HK6 HO6 HY6 x0 x1 x2 x3 x4 x5 x6 x7 x8 x9 x10 x11 x12 x13 x14
  obtain ⟨k0, k1, k2, k3, k4, k5, k6, k7, k8, k9⟩ := HK7.out
  obtain ⟨y0, y1, y2⟩ := HY7.out.at
  obtain ⟨z0, z1⟩ := HZ7.out
  go_wp2_with fail
  refine (may_impl k A5 c5 S r B6 D6 b6 d6 up C7 e7 T _ HM.out HPA7.out hn hm HO7.out.pts HO7.out.ints HMT.out HPT7.out).mono ?_
  rintro en w8 ⟨rfl, hb8⟩
  have HB8 := vl (HB7.out.trans (hb8.mono HB7.out.size))
  have HL8 := vl (HL7.out.below hb8)
  have HPA8 := vl (HPA7.out.below hb8)
  have HK8 := vl (HK7.out.below hb8)
  have HO8 := vl (HO7.out.below hb8)
  have HY8 := vl (HY7.out.below hb8)
  have HPT8 := vl (HPT7.out.below hb8)
  have HZ8 := vl (HZ7.out.below hb8)
  clear hb8 k0 k1 k2 k3 k4 k5 k6 k7 k8 k9 y0 y1 y2 z0 z1 HL7 HPA7 HK7 HO7 HY7 HPT7 HZ7
  obtain ⟨x0, x1, x2, x3, x4, x5, x6, x7, x8, x9, x10, x11, x12, x13, x14⟩ := HL8.out.all
  obtain ⟨k0, k1, k2, k3, k4, k5, k6, k7, k8, k9⟩ := HK8.out
  obtain ⟨y0, y1, y2⟩ := HY8.out.at
  obtain ⟨z0, z1⟩ := HZ8.out
  go_wp2
  go_region_held3 (fun w' => w'.cell? ⟨w.heap.size, 0, none⟩ = some (.int .i64 k.le) ∧ w'.cell? ⟨w.heap.size, 1, none⟩ = some (.int .i64 k.wi) ∧ w'.cell? ⟨w.heap.size, 2, none⟩ = some (.int .i64 k.sa) ∧ w'.cell? ⟨w.heap.size, 3, none⟩ = some (.int .i64 k.sb) ∧ w'.cell? ⟨w.heap.size, 4, none⟩ = some (.int .i64 k.ba) ∧ w'.cell? ⟨w.heap.size, 5, none⟩ = some (.int .i64 k.ar) ∧ w'.cell? ⟨w.heap.size, 6, none⟩ = some (.int .i64 k.ra) ∧ w'.cell? ⟨w.heap.size, 7, none⟩ = some (.int .i64 k.wa) ∧ w'.cell? ⟨w.heap.size, 8, none⟩ = some (.int .i64 k.ga) ∧ w'.cell? ⟨w.heap.size, 9, none⟩ = some (.slice A S.length c) ∧ w'.cell? ⟨w5.heap.size, 0, none⟩ = some (.int .i64 k.le) ∧ w'.cell? ⟨w5.heap.size, 1, none⟩ = some (.int .i64 k.wi) ∧ w'.cell? ⟨w5.heap.size, 2, none⟩ = some (.int .i64 k.sa) ∧ w'.cell? ⟨w5.heap.size, 3, none⟩ = some (.int .i64 k.sb) ∧ w'.cell? ⟨w5.heap.size, 4, none⟩ = some (.int .i64 k.ba) ∧ w'.cell? ⟨w5.heap.size, 5, none⟩ = some (.int .i64 k.ar) ∧ w'.cell? ⟨w5.heap.size, 6, none⟩ = some (.int .i64 k.ra) ∧ w'.cell? ⟨w5.heap.size, 7, none⟩ = some (.int .i64 k.wa) ∧ w'.cell? ⟨w5.heap.size, 8, none⟩ = some (.int .i64 k.ga) ∧ w'.cell? ⟨w5.heap.size, 9, none⟩ = some (.slice A5 S.length c5) ∧ Below w8.heap.size w8 w')
    (first | exact ⟨x0, x1, x2, x3, x4, x5, x6, x7, x8, x9, k0, k1, k2, k3, k4, k5, k6, k7, k8, k9, Below.refl _ _⟩ | exact ⟨x0, x1, x2, x3, x4, x5, x6, x7, x8, x9, k0, k1, k2, k3, k4, k5, k6, k7, k8, k9, (Below.refl _ _).drew⟩ | assumption)
    (first
      | (go_at_call 71; obtain ⟨m0, m1, m2, m3, m4, m5, m6, m7, m8, m9, m10, m11, m12, m13, m14, m15, m16, m17, m18, m19, hb7⟩ : _ ∧ _ ∧ _ ∧ _ ∧ _ ∧ _ ∧ _ ∧ _ ∧ _ ∧ _ ∧ _ ∧ _ ∧ _ ∧ _ ∧ _ ∧ _ ∧ _ ∧ _ ∧ _ ∧ _ ∧ Below w8.heap.size w8 _ := by assumption
         refine (toLock k A c S _ HM.out (HS.out.below (HB8.out.trans (hb7.mono HB8.out.size)))).mono ?_
         rintro en w' ⟨⟨A9, c9, g9, lo9, hi9, gg9, GG9, rfl, _, ho9⟩, hb'⟩
         have HOQ := vl ho9
         have S1 := And.intro ((hb'.cell (cell_lt' m0)).trans m0) (And.intro ((hb'.cell (cell_lt' m1)).trans m1) (And.intro ((hb'.cell (cell_lt' m2)).trans m2) (And.intro ((hb'.cell (cell_lt' m3)).trans m3) (And.intro ((hb'.cell (cell_lt' m4)).trans m4) (And.intro ((hb'.cell (cell_lt' m5)).trans m5) (And.intro ((hb'.cell (cell_lt' m6)).trans m6) (And.intro ((hb'.cell (cell_lt' m7)).trans m7) (And.intro ((hb'.cell (cell_lt' m8)).trans m8) (And.intro ((hb'.cell (cell_lt' m9)).trans m9) (And.intro ((hb'.cell (cell_lt' m10)).trans m10) (And.intro ((hb'.cell (cell_lt' m11)).trans m11) (And.intro ((hb'.cell (cell_lt' m12)).trans m12) (And.intro ((hb'.cell (cell_lt' m13)).trans m13) (And.intro ((hb'.cell (cell_lt' m14)).trans m14) (And.intro ((hb'.cell (cell_lt' m15)).trans m15) (And.intro ((hb'.cell (cell_lt' m16)).trans m16) (And.intro ((hb'.cell (cell_lt' m17)).trans m17) (And.intro ((hb'.cell (cell_lt' m18)).trans m18) (And.intro ((hb'.cell (cell_lt' m19)).trans m19) (hb7.trans (hb'.mono hb7.size)))))))))))))))))))))
         clear ho9 hb')
      | (go_at_call 73; obtain ⟨m0, m1, m2, m3, m4, m5, m6, m7, m8, m9, m10, m11, m12, m13, m14, m15, m16, m17, m18, m19, hb7⟩ : _ ∧ _ ∧ _ ∧ _ ∧ _ ∧ _ ∧ _ ∧ _ ∧ _ ∧ _ ∧ _ ∧ _ ∧ _ ∧ _ ∧ _ ∧ _ ∧ _ ∧ _ ∧ _ ∧ _ ∧ Below w8.heap.size w8 _ := by assumption
         refine (eqLock k _ _ _ _ S _ HM.out (HPA8.out.below hb7) HOQ.out.trs).mono ?_
         rintro en w' ⟨rfl, hb'⟩
         have S2 := And.intro ((hb'.cell (cell_lt' m0)).trans m0) (And.intro ((hb'.cell (cell_lt' m1)).trans m1) (And.intro ((hb'.cell (cell_lt' m2)).trans m2) (And.intro ((hb'.cell (cell_lt' m3)).trans m3) (And.intro ((hb'.cell (cell_lt' m4)).trans m4) (And.intro ((hb'.cell (cell_lt' m5)).trans m5) (And.intro ((hb'.cell (cell_lt' m6)).trans m6) (And.intro ((hb'.cell (cell_lt' m7)).trans m7) (And.intro ((hb'.cell (cell_lt' m8)).trans m8) (And.intro ((hb'.cell (cell_lt' m9)).trans m9) (And.intro ((hb'.cell (cell_lt' m10)).trans m10) (And.intro ((hb'.cell (cell_lt' m11)).trans m11) (And.intro ((hb'.cell (cell_lt' m12)).trans m12) (And.intro ((hb'.cell (cell_lt' m13)).trans m13) (And.intro ((hb'.cell (cell_lt' m14)).trans m14) (And.intro ((hb'.cell (cell_lt' m15)).trans m15) (And.intro ((hb'.cell (cell_lt' m16)).trans m16) (And.intro ((hb'.cell (cell_lt' m17)).trans m17) (And.intro ((hb'.cell (cell_lt' m18)).trans m18) (And.intro ((hb'.cell (cell_lt' m19)).trans m19) (hb7.trans (hb'.mono hb7.size)))))))))))))))))))))
         clear hb'))
  obtain ⟨m0, m1, m2, m3, m4, m5, m6, m7, m8, m9, m10, m11, m12, m13, m14, m15, m16, m17, m18, m19, hb9⟩ : _ ∧ _ ∧ _ ∧ _ ∧ _ ∧ _ ∧ _ ∧ _ ∧ _ ∧ _ ∧ _ ∧ _ ∧ _ ∧ _ ∧ _ ∧ _ ∧ _ ∧ _ ∧ _ ∧ _ ∧ Below w8.heap.size w8 _ := by assumption
  obtain ⟨w9, hw9⟩ : ∃ w9, w9 = w' := ⟨_, rfl⟩
  rw [← hw9] at hb9 ⊢
  have HB9 := vl (HB8.out.trans (hb9.mono HB8.out.size))
  have HL9 := vl (HL8.out.below hb9)
  have HO9 := vl (HO8.out.below hb9)
  have HY9 := vl (HY8.out.below hb9)
  have HPT9 := vl (HPT8.out.below hb9)
  have HZ9 := vl (HZ8.out.below hb9)
  clear hb9 S1 S2 HOQ HL8 HO8 HY8 HPT8 HZ8 m0 m1 m2 m3 m4 m5 m6 m7 m8 m9 m10 m11 m12 m13 m14 m15 m16 m17 m18 m19 hw9 x0 x1 x2 x3 x4 x5 x6 x7 x8 x9 x10 x11 x12 x13 x14 k0 k1 k2 k3 k4 k5 k6 k7 k8 k9 y0 y1 y2 z0 z1
  obtain ⟨x0, x1, x2, x3, x4, x5, x6, x7, x8, x9, x10, x11, x12, x13, x14⟩ := HL9.out.all
  obtain ⟨y0, y1, y2⟩ := HY9.out.at
  obtain ⟨z0, z1⟩ := HZ9.out
  go_wp2
  go_region_held3 (fun w' => w'.cell? ⟨p1, 0, none⟩ = some (.slice B r.n b) ∧ w'.cell? ⟨p1, 1, none⟩ = some (.int .i64 r.v) ∧ w'.cell? ⟨p1, 2, none⟩ = some (.slice D r.m d) ∧ w'.cell? ⟨w6.heap.size, 0, none⟩ = some (.slice B6 r.n b6) ∧ w'.cell? ⟨w6.heap.size, 1, none⟩ = some (.int .i64 r.v) ∧ w'.cell? ⟨w6.heap.size, 2, none⟩ = some (.slice D6 r.m d6) ∧ Below w9.heap.size w9 w')
    (first | exact ⟨x10, x11, x12, y0, y1, y2, Below.refl _ _⟩ | exact ⟨x10, x11, x12, y0, y1, y2, (Below.refl _ _).drew⟩ | assumption)
    (first
      | (go_at_call 87; obtain ⟨m0, m1, m2, m3, m4, m5, hb7⟩ : _ ∧ _ ∧ _ ∧ _ ∧ _ ∧ _ ∧ Below w9.heap.size w9 _ := by assumption
         refine (toReach r B D b d _ hn hm (HSP.out.below (HB9.out.trans (hb7.mono HB9.out.size))) (HSI.out.below (HB9.out.trans (hb7.mono HB9.out.size)))).mono ?_
         rintro en w' ⟨⟨B9, b9, D9, d9, g9, h9, rfl, _, ho9⟩, hb'⟩
         have HOQ := vl ho9
         have S1 := And.intro ((hb'.cell (cell_lt' m0)).trans m0) (And.intro ((hb'.cell (cell_lt' m1)).trans m1) (And.intro ((hb'.cell (cell_lt' m2)).trans m2) (And.intro ((hb'.cell (cell_lt' m3)).trans m3) (And.intro ((hb'.cell (cell_lt' m4)).trans m4) (And.intro ((hb'.cell (cell_lt' m5)).trans m5) (hb7.trans (hb'.mono hb7.size)))))))
         clear ho9 hb')
      | (go_at_call 89; obtain ⟨m0, m1, m2, m3, m4, m5, hb7⟩ : _ ∧ _ ∧ _ ∧ _ ∧ _ ∧ _ ∧ Below w9.heap.size w9 _ := by assumption
         refine (eqReach r _ _ _ _ _ _ _ _ _ hn hm (HO9.out.below hb7) HOQ.out).mono ?_
         rintro en w' ⟨rfl, hb'⟩
         have S2 := And.intro ((hb'.cell (cell_lt' m0)).trans m0) (And.intro ((hb'.cell (cell_lt' m1)).trans m1) (And.intro ((hb'.cell (cell_lt' m2)).trans m2) (And.intro ((hb'.cell (cell_lt' m3)).trans m3) (And.intro ((hb'.cell (cell_lt' m4)).trans m4) (And.intro ((hb'.cell (cell_lt' m5)).trans m5) (hb7.trans (hb'.mono hb7.size)))))))
         clear hb'))
  obtain ⟨m0, m1, m2, m3, m4, m5, hb9⟩ : _ ∧ _ ∧ _ ∧ _ ∧ _ ∧ _ ∧ Below w9.heap.size w9 _ := by assumption
  obtain ⟨w10, hw10⟩ : ∃ w10, w10 = w' := ⟨_, rfl⟩
  rw [← hw10] at hb9 ⊢
  have HB10 := vl (HB9.out.trans (hb9.mono HB9.out.size))
  have HL10 := vl (HL9.out.below hb9)
  have HO10 := vl (HO9.out.below hb9)
  have HY10 := vl (HY9.out.below hb9)
  have HPT10 := vl (HPT9.out.below hb9)
  have HZ10 := vl (HZ9.out.below hb9)
  clear hb9 S1 S2 HOQ HL9 HO9 HY9 HPT9 HZ9 m0 m1 m2 m3 m4 m5 hw10 x0 x1 x2 x3 x4 x5 x6 x7 x8 x9 x10 x11 x12 x13 x14 y0 y1 y2 z0 z1
  obtain ⟨x0, x1, x2, x3, x4, x5, x6, x7, x8, x9, x10, x11, x12, x13, x14⟩ := HL10.out.all
  obtain ⟨z0, z1⟩ := HZ10.out
  go_wp2
  go_region_held3 (fun w' => w'.cell? ⟨p2, 0, none⟩ = some (.bool up) ∧ w'.cell? ⟨p2, 1, none⟩ = some (.slice C T.length e) ∧ w'.cell? ⟨w7.heap.size, 0, none⟩ = some (.bool up) ∧ w'.cell? ⟨w7.heap.size, 1, none⟩ = some (.slice C7 T.length e7) ∧ Below w10.heap.size w10 w')
    (first | exact ⟨x13, x14, z0, z1, Below.refl _ _⟩ | exact ⟨x13, x14, z0, z1, (Below.refl _ _).drew⟩ | assumption)
    (first
      | (go_at_call 53; obtain ⟨m0, m1, m2, m3, hb7⟩ : _ ∧ _ ∧ _ ∧ _ ∧ Below w10.heap.size w10 _ := by assumption
         refine (toTrain up C e T _ hnt HRT.out (HU.out.src.below (HB10.out.trans (hb7.mono HB10.out.size)))).mono ?_
         rintro en w' ⟨⟨C9, e9, g9, G9, rfl, _, ho9⟩, hb'⟩
         have HOQ := vl ho9
         have S1 := And.intro ((hb'.cell (cell_lt' m0)).trans m0) (And.intro ((hb'.cell (cell_lt' m1)).trans m1) (And.intro ((hb'.cell (cell_lt' m2)).trans m2) (And.intro ((hb'.cell (cell_lt' m3)).trans m3) (hb7.trans (hb'.mono hb7.size)))))
         clear ho9 hb')
      | (go_at_call 54; obtain ⟨m0, m1, m2, m3, hb7⟩ : _ ∧ _ ∧ _ ∧ _ ∧ Below w10.heap.size w10 _ := by assumption
         refine (eqTrain up _ _ _ _ T _ hnt HRT.out (HPT10.out.below hb7) HOQ.out.trn).mono ?_
         rintro en w' ⟨rfl, hb'⟩
         have S2 := And.intro ((hb'.cell (cell_lt' m0)).trans m0) (And.intro ((hb'.cell (cell_lt' m1)).trans m1) (And.intro ((hb'.cell (cell_lt' m2)).trans m2) (And.intro ((hb'.cell (cell_lt' m3)).trans m3) (hb7.trans (hb'.mono hb7.size)))))
         clear hb'))
  all_goals
    obtain ⟨m0, m1, m2, m3, hb9⟩ : _ ∧ _ ∧ _ ∧ _ ∧ Below w10.heap.size w10 _ := by assumption
    go_wp2
    go_ret
    exact ⟨rfl, HB10.out.trans (hb9.mono HB10.out.size)⟩

theorem parOk : Try.f22.params.toList.all (fun t => Try.prog.readableRec t && decide (t < Try.prog.types.size)) = true := by kernel_rfl
set_option maxRecDepth 100000 in
theorem lifted (os : Os) (started : os.Started) (H : Type) (enc : TypeId × Value → H) :
    ReturnsInHanded {} Try.checked os 22 .any (Rows.fnExactMayEnterSpec.pre6 enc Try.prog Try.f22 Rows.fnExactMayEnterRow.domain false) (Rows.fnExactMayEnterSpec.post enc Try.prog Try.f22 false true false false) := by
  refine law_lifted (C := Try.checked) own started (by kernel_rfl) Try.func22 laid (fun t ht => by
      have h := List.all_eq_true.1 parOk t ht
      rw [Bool.and_eq_true] at h
      exact ⟨h.1, of_decide_eq_true h.2⟩) rfl Try.underlying4 rfl
    (fun xs hx => by
      rw [show Try.f22.params.toList.length = 3 from by rw [Try.params22]; rfl] at hx
      match xs, hx with
      | [d0, d1, d2], _ => rfl)
    (ChangeSpec.witness6 (enc := enc) (C := Try.checked) false ⟨#[], #[.agg #[.int .i64 0, .int .i64 0, .int .i64 0, .int .i64 0, .int .i64 0, .int .i64 0, .int .i64 0, .int .i64 0, .int .i64 0, .slice none 0 0], .agg #[.slice none 0 0, .int .i64 0, .slice none 0 0], .agg #[.bool false, .slice none 0 0]], []⟩ 8 (by kernel_rfl) (by kernel_rfl) (by kernel_rfl) (by kernel_rfl)) ?_
  intro W base args ds p hval0 hA0 _
  have hval : ∀ (j : Nat) t v, Try.f22.params[j]? = some t → args[j]? = some v → Value.okWide Try.prog W .any base t v := hval0
  have hA : DataW.TrodAll enc Try.prog W 0 (fun _ => true) true Try.f22.params.toList args.toList ds p := hA0
  clear hA0 hval0
  rw [Try.params22] at hA hval
  obtain ⟨v0, vs0, d0, ds0, p0, q0, hargs, rfl, rfl, h0, r0⟩ := trodAll_cons hA
  obtain ⟨v1, vs1, d1, ds1, p1, q1, rfl, rfl, rfl, h1, r1⟩ := trodAll_cons r0
  obtain ⟨v2, vs2, d2, ds2, p2, q2, rfl, rfl, rfl, h2, r2⟩ := trodAll_cons r1
  obtain ⟨rfl, rfl, rfl⟩ := trodAll_nil r2
  obtain rfl : args = #[v0, v1, v2] := by cases args; simp_all
  obtain ⟨k0, A0, c0, S0, rfl, x0⟩ := open_lock (hval 0 68 _ rfl rfl) h0
  obtain ⟨rc1, A1, D1, c1, e1, rfl, x1⟩ := open_reach (hval 1 87 _ rfl rfl) h1
  obtain ⟨up2, A2, c2, T2, rfl, x2⟩ := open_train (hval 2 58 _ rfl rfl) h2
  exact walk k0 A0 c0 S0 rc1 A1 D1 c1 e1 up2 A2 c2 T2 W x0 x1 x2

/-- The statement. -/
theorem proved : Rows.FnExactMayEnterSaid :=
  OpenClaim.holds_of_wide 22 Try.f22 rfl rfl rfl rfl rfl rfl rfl ⟨rfl, rfl, rfl, rfl, rfl⟩ rfl rfl rfl rfl rfl (by kernel_rfl) Try.func22 (by show joinedFacts Try.prog _ _ _ _ = true; unfold joinedFacts; rw [Io.mayEnter, Io.liftsFinal, Io.make]; kernel_rfl)
    (of_decide_eq_true (by kernel_rfl)) (by unfold Func.isWrapper; first | (rw [if_pos (by decide +kernel)]; kernel_rfl) | (rw [if_neg (by decide +kernel)]; exact ⟨rfl, rfl⟩))
    (fun os started H enc _ => lifted os started H enc)
#print axioms proved
end Go.Proofs.Ytmfeleocjmdooaa.fnExactMayEnter
