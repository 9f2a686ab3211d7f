/-
  For every input the Go function 'laws.FnExactComesBefore' returns true, and each argument reads afterwards as it read before. No further condition.
-/
import Derived.Test.YtmfeleocjmdooaaSt
import Derived.Test.YtmfeleocjmdooaaClO
import Derived.Test.YtmfeleocjmdooaaCl
import Derived.Test.YtmfeleocjmdooaaTrnE
import Derived.Test.YtmfeleocjmdooaaLift
import Derived.Test.YtmfeleocjmdooaaIo
import Derived.Test.YtmfeleocjmdooaaOpen
import Derived.ChangeMaps5
namespace Go.Proofs.Ytmfeleocjmdooaa.fnExactComesBefore
open Go.Proofs.Ytmfeleocjmdooaa.C1 Go.Proofs.Ytmfeleocjmdooaa.Lift Go.Proofs.Ytmfeleocjmdooaa.Opened
open Go.ChangeShapes Go.WideShapes Go.ChangeAt Go.RowKit Go.ChangeMaps
set_option linter.unusedVariables false

set_option maxRecDepth 100000 in
set_option maxHeartbeats 8000000 in
theorem walk (a : Cl) (A : Option Addr) (c : Nat) (b : Cl) (B : Option Addr) (d : Nat) (now : Int) (w : World) (ht : ArgT w A a.T) (hu : ArgT w B b.T) (_ : (Lit.int .i64 now).wf = true) :
    Calls Try.prog 25 #[.agg #[.bool a.up, .slice A a.T.length c, .int .i64 a.s, .int .i64 a.b], .agg #[.bool b.up, .slice B b.T.length d, .int .i64 b.s, .int .i64 b.b], .int .i64 now] w fun e w' => e = .returned (.bool true) ∧ Below w.heap.size w w' := by
  have HT := vl ht
  have HU := vl hu
  have HB0 := vl (((Below.refl w.heap.size w).alloc (Nat.le_refl _) (.cells #[.bool a.up, .slice A a.T.length c, .int .i64 a.s, .int .i64 a.b] 97)).alloc (by simp) (.cells #[.bool b.up, .slice B b.T.length d, .int .i64 b.s, .int .i64 b.b] 97))
  have hx0 : CBox ((w.alloc (.cells #[.bool a.up, .slice A a.T.length c, .int .i64 a.s, .int .i64 a.b] 97)).alloc (.cells #[.bool b.up, .slice B b.T.length d, .int .i64 b.s, .int .i64 b.b] 97)) w.heap.size a.up A a.T.length c a.s a.b := (CBox.new w a.up A a.T.length c a.s a.b 97).below ((Below.refl _ _).alloc (Nat.le_refl _) _)
  have hy0 : CBox ((w.alloc (.cells #[.bool a.up, .slice A a.T.length c, .int .i64 a.s, .int .i64 a.b] 97)).alloc (.cells #[.bool b.up, .slice B b.T.length d, .int .i64 b.s, .int .i64 b.b] 97)) (w.heap.size + 1) b.up B b.T.length d b.s b.b := by
    have := CBox.new (w.alloc (.cells #[.bool a.up, .slice A a.T.length c, .int .i64 a.s, .int .i64 a.b] 97)) b.up B b.T.length d b.s b.b 97
    simpa using this
  have HX0 := vl hx0
  have HY0 := vl hy0
  have HT0 := vl (show ArgT ((w.alloc (.cells #[.bool a.up, .slice A a.T.length c, .int .i64 a.s, .int .i64 a.b] 97)).alloc (.cells #[.bool b.up, .slice B b.T.length d, .int .i64 b.s, .int .i64 b.b] 97)) A a.T from ⟨ht.len, ht.row, ht.src.below HB0.out⟩)
  have HU0 := vl (show ArgT ((w.alloc (.cells #[.bool a.up, .slice A a.T.length c, .int .i64 a.s, .int .i64 a.b] 97)).alloc (.cells #[.bool b.up, .slice B b.T.length d, .int .i64 b.s, .int .i64 b.b] 97)) B b.T from ⟨hu.len, hu.row, hu.src.below HB0.out⟩)
  obtain ⟨x0, x1, x2, x3⟩ := hx0
  obtain ⟨y0, y1, y2, y3⟩ := hy0
  clear ht hu
  by_cases hbig : (1048576 : Int) < (szT a.T : Int)
  · go_enter Try.func25, Try.ntmps25
    go_wp2_with fail
    refine (szCall_no a A c _ _ (by omega) (by omega) HT0.out hbig).mono ?_
    rintro e w1 ⟨rfl, hb1⟩
    have HB1 := vl (HB0.out.trans (hb1.mono HB0.out.size))
    clear hb1
    go_wp2
    go_ret
    exact ⟨rfl, HB1.out⟩
  have hsz : (szT a.T : Int) ≤ 1048576 := by omega
  have HMA := vl (mod_of hsz)
  have hna := HMA.out.rows
  have HRA := vl (fun r (hr : r ∈ a.T) => HMA.out.row hr)
  have hnn : (0 : Int) ≤ 1048576 - (szT a.T : Int) := by omega
  clear hbig
  go_enter Try.func25, Try.ntmps25
  go_wp2_with fail
  refine (szCall_yes a A c _ _ (by omega) HT0.out hsz).mono ?_
  rintro e w1 ⟨rfl, hb1⟩
  have HB1 := vl (HB0.out.trans (hb1.mono HB0.out.size))
  have HX1 := vl (HX0.out.below hb1)
  have HY1 := vl (HY0.out.below hb1)
  have HU1 := vl (show ArgT w1 B b.T from ⟨HU0.out.len, HU0.out.row, HU0.out.src.below hb1⟩)
  clear hb1 x0 x1 x2 x3 y0 y1 y2 y3 HX0 HY0
  obtain ⟨x0, x1, x2, x3⟩ := HX1.out
  obtain ⟨y0, y1, y2, y3⟩ := HY1.out
  by_cases hbig2 : 1048576 - (szT a.T : Int) < (szT b.T : Int)
  · go_wp2_with fail
    refine (szCall_no b B d _ _ (by omega) (by omega) HU1.out hbig2).mono ?_
    rintro e w2 ⟨rfl, hb2⟩
    have HB2 := vl (HB1.out.trans (hb2.mono HB1.out.size))
    clear hb2
    go_wp2
    go_ret
    exact ⟨rfl, HB2.out⟩
  have hsz2 : (szT b.T : Int) ≤ 1048576 - (szT a.T : Int) := by omega
  have HMB := vl (mod_of (T := b.T) (by omega))
  have hnb := HMB.out.rows
  have HRB := vl (fun r (hr : r ∈ b.T) => HMB.out.row hr)
  have hnn2 : (0 : Int) ≤ 1048576 - (szT a.T : Int) - (szT b.T : Int) := by omega
  clear hbig2
  go_wp2_with fail
  refine (szCall_yes b B d _ _ (by omega) HU1.out hsz2).mono ?_
  rintro e w2 ⟨rfl, hb2⟩
  have HB2 := vl (HB1.out.trans (hb2.mono HB1.out.size))
  have HX2 := vl (HX1.out.below hb2)
  have HY2 := vl (HY1.out.below hb2)
  clear hb2 x0 x1 x2 x3 y0 y1 y2 y3 HX1 HY1
  obtain ⟨x0, x1, x2, x3⟩ := HX2.out
  obtain ⟨y0, y1, y2, y3⟩ := HY2.out
  go_wp2
  generalize hp1 : w.heap.size + 1 = p1 at *
  go_region_held3 (fun w' => w'.cell? ⟨w.heap.size, 0, none⟩ = some (.bool a.up) ∧ w'.cell? ⟨w.heap.size, 1, none⟩ = some (.slice A a.T.length c) ∧ w'.cell? ⟨w.heap.size, 2, none⟩ = some (.int .i64 a.s) ∧ w'.cell? ⟨w.heap.size, 3, none⟩ = some (.int .i64 a.b) ∧ w'.cell? ⟨p1, 0, none⟩ = some (.bool b.up) ∧ w'.cell? ⟨p1, 1, none⟩ = some (.slice B b.T.length d) ∧ w'.cell? ⟨p1, 2, none⟩ = some (.int .i64 b.s) ∧ w'.cell? ⟨p1, 3, none⟩ = some (.int .i64 b.b) ∧ Below w2.heap.size w2 w')
    (first | exact ⟨x0, x1, x2, x3, y0, y1, y2, y3, Below.refl _ _⟩ | exact ⟨x0, x1, x2, x3, y0, y1, y2, y3, (Below.refl _ _).drew⟩ | assumption)
    (first
      | (go_at_call 92; obtain ⟨a0, a1, a2, a3, b0, b1, b2, b3, hb7⟩ : _ ∧ _ ∧ _ ∧ _ ∧ _ ∧ _ ∧ _ ∧ _ ∧ Below w2.heap.size w2 _ := by assumption
         with_reducible refine (toCall a A c _ hna HRA.out (HT.out.src.below (HB2.out.trans (hb7.mono HB2.out.size)))).mono ?_
         rintro e w' ⟨⟨A6, c6, g6, G6, rfl, _, ho6⟩, hb'⟩
         have HOA := vl ho6.trn
         have S1 := And.intro ((hb'.cell (cell_lt' a0)).trans a0) (And.intro ((hb'.cell (cell_lt' a1)).trans a1) (And.intro ((hb'.cell (cell_lt' a2)).trans a2) (And.intro ((hb'.cell (cell_lt' a3)).trans a3) (And.intro ((hb'.cell (cell_lt' b0)).trans b0) (And.intro ((hb'.cell (cell_lt' b1)).trans b1) (And.intro ((hb'.cell (cell_lt' b2)).trans b2) (And.intro ((hb'.cell (cell_lt' b3)).trans b3) (hb7.trans (hb'.mono hb7.size)))))))))
         clear ho6 hb')
      | (go_at_call 92; obtain ⟨a0, a1, a2, a3, b0, b1, b2, b3, hb7⟩ : _ ∧ _ ∧ _ ∧ _ ∧ _ ∧ _ ∧ _ ∧ _ ∧ Below w2.heap.size w2 _ := by assumption
         with_reducible refine (toCall b B d _ hnb HRB.out (HU.out.src.below (HB2.out.trans (hb7.mono HB2.out.size)))).mono ?_
         rintro e w' ⟨⟨A7, c7, g7, G7, rfl, _, ho7⟩, hb'⟩
         have HOB := vl ho7.trn
         have HOA2 := vl (HOA.out.below hb')
         have S2 := And.intro ((hb'.cell (cell_lt' a0)).trans a0) (And.intro ((hb'.cell (cell_lt' a1)).trans a1) (And.intro ((hb'.cell (cell_lt' a2)).trans a2) (And.intro ((hb'.cell (cell_lt' a3)).trans a3) (And.intro ((hb'.cell (cell_lt' b0)).trans b0) (And.intro ((hb'.cell (cell_lt' b1)).trans b1) (And.intro ((hb'.cell (cell_lt' b2)).trans b2) (And.intro ((hb'.cell (cell_lt' b3)).trans b3) (hb7.trans (hb'.mono hb7.size)))))))))
         clear ho7 hb')
      | (go_at_call 95; obtain ⟨a0, a1, a2, a3, b0, b1, b2, b3, hb7⟩ : _ ∧ _ ∧ _ ∧ _ ∧ _ ∧ _ ∧ _ ∧ _ ∧ Below w2.heap.size w2 _ := by assumption
         refine (before_spec a b now _ _ _ _ _ HMA.out HMB.out HOA2.out HOB.out).mono ?_
         rintro e w' ⟨rfl, hb'⟩
         have S3 := And.intro ((hb'.cell (cell_lt' a0)).trans a0) (And.intro ((hb'.cell (cell_lt' a1)).trans a1) (And.intro ((hb'.cell (cell_lt' a2)).trans a2) (And.intro ((hb'.cell (cell_lt' a3)).trans a3) (And.intro ((hb'.cell (cell_lt' b0)).trans b0) (And.intro ((hb'.cell (cell_lt' b1)).trans b1) (And.intro ((hb'.cell (cell_lt' b2)).trans b2) (And.intro ((hb'.cell (cell_lt' b3)).trans b3) (hb7.trans (hb'.mono hb7.size)))))))))
         clear hb'))
  obtain ⟨x0, x1, x2, x3, y0, y1, y2, y3, hb8⟩ : _ ∧ _ ∧ _ ∧ _ ∧ _ ∧ _ ∧ _ ∧ _ ∧ Below w2.heap.size w2 _ := by assumption
  obtain ⟨w3, hw3⟩ : ∃ w3, w3 = w' := ⟨_, rfl⟩
  rw [← hw3] at x0 x1 x2 x3 y0 y1 y2 y3 hb8 ⊢
  have HB3 := vl (HB2.out.trans (hb8.mono HB2.out.size))
  have HX3 := vl (show CBox w3 w.heap.size a.up A a.T.length c a.s a.b from ⟨x0, x1, x2, x3⟩)
  have HY3 := vl (show CBox w3 p1 b.up B b.T.length d b.s b.b from ⟨y0, y1, y2, y3⟩)
  clear hb8 hw3 S1 S2 S3 HOA HOB HOA2
  go_wp2_with fail
  refine (toCall a A c _ hna HRA.out (HT.out.src.below HB3.out)).mono ?_
  rintro e w4 ⟨⟨A4, c4, g4, G4, rfl, _, ho4⟩, hb4⟩
  have hba := (Below.refl w4.heap.size w4).alloc (Nat.le_refl _) (.cells #[.bool a.up, .slice A4 a.T.length c4, .int .i64 a.s, .int .i64 a.b] 44)
  have HB4 := vl ((HB3.out.trans (hb4.mono HB3.out.size)).alloc (Nat.le_trans HB3.out.size hb4.size) (.cells #[.bool a.up, .slice A4 a.T.length c4, .int .i64 a.s, .int .i64 a.b] 44))
  have HX4 := vl ((HX3.out.below hb4).below hba)
  have HY4 := vl ((HY3.out.below hb4).below hba)
  have HPA := vl (ho4.trn.below hba)
  have HA4 := vl (CBox.new w4 a.up A4 a.T.length c4 a.s a.b 44)
  clear hb4 ho4 hba x0 x1 x2 x3 y0 y1 y2 y3 HX3 HY3
  obtain ⟨y0, y1, y2, y3⟩ := HY4.out
  go_wp2_with fail
  refine (toCall b B d _ hnb HRB.out (HU.out.src.below HB4.out)).mono ?_
  rintro e w5 ⟨⟨A5, c5, g5, G5, rfl, _, ho5⟩, hb5⟩
  have hba := (Below.refl w5.heap.size w5).alloc (Nat.le_refl _) (.cells #[.bool b.up, .slice A5 b.T.length c5, .int .i64 b.s, .int .i64 b.b] 44)
  have HB5 := vl ((HB4.out.trans (hb5.mono HB4.out.size)).alloc (Nat.le_trans HB4.out.size hb5.size) (.cells #[.bool b.up, .slice A5 b.T.length c5, .int .i64 b.s, .int .i64 b.b] 44))
  have HX5 := vl ((HX4.out.below hb5).below hba)
  have HY5 := vl ((HY4.out.below hb5).below hba)
  have HA5 := vl ((HA4.out.below hb5).below hba)
  have HPA5 := vl ((HPA.out.below hb5).below hba)
  have HPB5 := vl (ho5.trn.below hba)
  have HD5 := vl (CBox.new w5 b.up A5 b.T.length c5 b.s b.b 44)
  clear hb5 ho5 hba y0 y1 y2 y3 HX4 HY4 HA4 HPA
  obtain ⟨e0, e1, e2, e3⟩ := HA5.out
  obtain ⟨f0, f1, f2, f3⟩ := HD5.out
  go_wp2_with fail
  refine (before_impl a b now A4 A5 c4 c5 _ HMA.out HMB.out HPA5.out HPB5.out).mono ?_
  rintro e w6 ⟨rfl, hb6⟩
  have HB6 := vl (HB5.out.trans (hb6.mono HB5.out.size))
  have HX6 := vl (HX5.out.below hb6)
  have HY6 := vl (HY5.out.below hb6)
  have HA6 := vl (HA5.out.below hb6)
  have HD6 := vl (HD5.out.below hb6)
  have HPA6 := vl (HPA5.out.below hb6)
  have HPB6 := vl (HPB5.out.below hb6)
  clear hb6 e0 e1 e2 e3 f0 f1 f2 f3 HX5 HY5 HA5 HD5 HPA5 HPB5
  obtain ⟨x0, x1, x2, x3⟩ := HX6.out
  obtain ⟨y0, y1, y2, y3⟩ := HY6.out
  obtain ⟨e0, e1, e2, e3⟩ := HA6.out
  obtain ⟨f0, f1, f2, f3⟩ := HD6.out
  go_wp2
  go_region_held3 (fun w' => w'.cell? ⟨w.heap.size, 0, none⟩ = some (.bool a.up) ∧ w'.cell? ⟨w.heap.size, 1, none⟩ = some (.slice A a.T.length c) ∧ w'.cell? ⟨w.heap.size, 2, none⟩ = some (.int .i64 a.s) ∧ w'.cell? ⟨w.heap.size, 3, none⟩ = some (.int .i64 a.b) ∧ w'.cell? ⟨p1, 0, none⟩ = some (.bool b.up) ∧ w'.cell? ⟨p1, 1, none⟩ = some (.slice B b.T.length d) ∧ w'.cell? ⟨p1, 2, none⟩ = some (.int .i64 b.s) ∧ w'.cell? ⟨p1, 3, none⟩ = some (.int .i64 b.b) ∧ w'.cell? ⟨w4.heap.size, 0, none⟩ = some (.bool a.up) ∧ w'.cell? ⟨w4.heap.size, 1, none⟩ = some (.slice A4 a.T.length c4) ∧ w'.cell? ⟨w4.heap.size, 2, none⟩ = some (.int .i64 a.s) ∧ w'.cell? ⟨w4.heap.size, 3, none⟩ = some (.int .i64 a.b) ∧ w'.cell? ⟨w5.heap.size, 0, none⟩ = some (.bool b.up) ∧ w'.cell? ⟨w5.heap.size, 1, none⟩ = some (.slice A5 b.T.length c5) ∧ w'.cell? ⟨w5.heap.size, 2, none⟩ = some (.int .i64 b.s) ∧ w'.cell? ⟨w5.heap.size, 3, none⟩ = some (.int .i64 b.b) ∧ Below w6.heap.size w6 w')
    (first | exact ⟨x0, x1, x2, x3, y0, y1, y2, y3, e0, e1, e2, e3, f0, f1, f2, f3, Below.refl _ _⟩ | exact ⟨x0, x1, x2, x3, y0, y1, y2, y3, e0, e1, e2, e3, f0, f1, f2, f3, (Below.refl _ _).drew⟩ | assumption)
    (first
      | (go_at_call 92; obtain ⟨a0, a1, a2, a3, b0, b1, b2, b3, m0, m1, m2, m3, n0, n1, n2, n3, hb7⟩ : _ ∧ _ ∧ _ ∧ _ ∧ _ ∧ _ ∧ _ ∧ _ ∧ _ ∧ _ ∧ _ ∧ _ ∧ _ ∧ _ ∧ _ ∧ _ ∧ Below w6.heap.size w6 _ := by assumption
         refine (toCall a A c _ hna HRA.out (HT.out.src.below (HB6.out.trans (hb7.mono HB6.out.size)))).mono ?_
         rintro e w' ⟨⟨A6, c6, g6, G6, rfl, _, ho6⟩, hb'⟩
         have HO6 := vl ho6.trn
         have S1 := And.intro ((hb'.cell (cell_lt' a0)).trans a0) (And.intro ((hb'.cell (cell_lt' a1)).trans a1) (And.intro ((hb'.cell (cell_lt' a2)).trans a2) (And.intro ((hb'.cell (cell_lt' a3)).trans a3) (And.intro ((hb'.cell (cell_lt' b0)).trans b0) (And.intro ((hb'.cell (cell_lt' b1)).trans b1) (And.intro ((hb'.cell (cell_lt' b2)).trans b2) (And.intro ((hb'.cell (cell_lt' b3)).trans b3) (And.intro ((hb'.cell (cell_lt' m0)).trans m0) (And.intro ((hb'.cell (cell_lt' m1)).trans m1) (And.intro ((hb'.cell (cell_lt' m2)).trans m2) (And.intro ((hb'.cell (cell_lt' m3)).trans m3) (And.intro ((hb'.cell (cell_lt' n0)).trans n0) (And.intro ((hb'.cell (cell_lt' n1)).trans n1) (And.intro ((hb'.cell (cell_lt' n2)).trans n2) (And.intro ((hb'.cell (cell_lt' n3)).trans n3) (hb7.trans (hb'.mono hb7.size)))))))))))))))))
         clear ho6 hb')
      | (go_at_call 93; obtain ⟨a0, a1, a2, a3, b0, b1, b2, b3, m0, m1, m2, m3, n0, n1, n2, n3, hb7⟩ : _ ∧ _ ∧ _ ∧ _ ∧ _ ∧ _ ∧ _ ∧ _ ∧ _ ∧ _ ∧ _ ∧ _ ∧ _ ∧ _ ∧ _ ∧ _ ∧ Below w6.heap.size w6 _ := by assumption
         refine (eqCall a _ _ _ _ _ hna HRA.out (HPA6.out.below hb7) HO6.out).mono ?_
         rintro e w' ⟨rfl, hb'⟩
         have S2 := And.intro ((hb'.cell (cell_lt' a0)).trans a0) (And.intro ((hb'.cell (cell_lt' a1)).trans a1) (And.intro ((hb'.cell (cell_lt' a2)).trans a2) (And.intro ((hb'.cell (cell_lt' a3)).trans a3) (And.intro ((hb'.cell (cell_lt' b0)).trans b0) (And.intro ((hb'.cell (cell_lt' b1)).trans b1) (And.intro ((hb'.cell (cell_lt' b2)).trans b2) (And.intro ((hb'.cell (cell_lt' b3)).trans b3) (And.intro ((hb'.cell (cell_lt' m0)).trans m0) (And.intro ((hb'.cell (cell_lt' m1)).trans m1) (And.intro ((hb'.cell (cell_lt' m2)).trans m2) (And.intro ((hb'.cell (cell_lt' m3)).trans m3) (And.intro ((hb'.cell (cell_lt' n0)).trans n0) (And.intro ((hb'.cell (cell_lt' n1)).trans n1) (And.intro ((hb'.cell (cell_lt' n2)).trans n2) (And.intro ((hb'.cell (cell_lt' n3)).trans n3) (hb7.trans (hb'.mono hb7.size)))))))))))))))))
         clear hb'))
  obtain ⟨x0, x1, x2, x3, y0, y1, y2, y3, e0, e1, e2, e3, f0, f1, f2, f3, hb8⟩ : _ ∧ _ ∧ _ ∧ _ ∧ _ ∧ _ ∧ _ ∧ _ ∧ _ ∧ _ ∧ _ ∧ _ ∧ _ ∧ _ ∧ _ ∧ _ ∧ Below w6.heap.size w6 _ := by assumption
  obtain ⟨w7, hw7⟩ : ∃ w7, w7 = w' := ⟨_, rfl⟩
  rw [← hw7] at x0 x1 x2 x3 y0 y1 y2 y3 e0 e1 e2 e3 f0 f1 f2 f3 hb8 ⊢
  have HB7 := vl (HB6.out.trans (hb8.mono HB6.out.size))
  have HPB7 := vl (HPB6.out.below hb8)
  clear hb8 hw7 S1 S2 HO6
  go_wp2
  go_region_held3 (fun w' => w'.cell? ⟨w.heap.size, 0, none⟩ = some (.bool a.up) ∧ w'.cell? ⟨w.heap.size, 1, none⟩ = some (.slice A a.T.length c) ∧ w'.cell? ⟨w.heap.size, 2, none⟩ = some (.int .i64 a.s) ∧ w'.cell? ⟨w.heap.size, 3, none⟩ = some (.int .i64 a.b) ∧ w'.cell? ⟨p1, 0, none⟩ = some (.bool b.up) ∧ w'.cell? ⟨p1, 1, none⟩ = some (.slice B b.T.length d) ∧ w'.cell? ⟨p1, 2, none⟩ = some (.int .i64 b.s) ∧ w'.cell? ⟨p1, 3, none⟩ = some (.int .i64 b.b) ∧ w'.cell? ⟨w4.heap.size, 0, none⟩ = some (.bool a.up) ∧ w'.cell? ⟨w4.heap.size, 1, none⟩ = some (.slice A4 a.T.length c4) ∧ w'.cell? ⟨w4.heap.size, 2, none⟩ = some (.int .i64 a.s) ∧ w'.cell? ⟨w4.heap.size, 3, none⟩ = some (.int .i64 a.b) ∧ w'.cell? ⟨w5.heap.size, 0, none⟩ = some (.bool b.up) ∧ w'.cell? ⟨w5.heap.size, 1, none⟩ = some (.slice A5 b.T.length c5) ∧ w'.cell? ⟨w5.heap.size, 2, none⟩ = some (.int .i64 b.s) ∧ w'.cell? ⟨w5.heap.size, 3, none⟩ = some (.int .i64 b.b) ∧ Below w7.heap.size w7 w')
    (first | exact ⟨x0, x1, x2, x3, y0, y1, y2, y3, e0, e1, e2, e3, f0, f1, f2, f3, Below.refl _ _⟩ | exact ⟨x0, x1, x2, x3, y0, y1, y2, y3, e0, e1, e2, e3, f0, f1, f2, f3, (Below.refl _ _).drew⟩ | assumption)
    (first
      | (go_at_call 92; obtain ⟨a0, a1, a2, a3, b0, b1, b2, b3, m0, m1, m2, m3, n0, n1, n2, n3, hb7⟩ : _ ∧ _ ∧ _ ∧ _ ∧ _ ∧ _ ∧ _ ∧ _ ∧ _ ∧ _ ∧ _ ∧ _ ∧ _ ∧ _ ∧ _ ∧ _ ∧ Below w7.heap.size w7 _ := by assumption
         refine (toCall b B d _ hnb HRB.out (HU.out.src.below (HB7.out.trans (hb7.mono HB7.out.size)))).mono ?_
         rintro e w' ⟨⟨A6, c6, g6, G6, rfl, _, ho6⟩, hb'⟩
         have HO6 := vl ho6.trn
         have S1 := And.intro ((hb'.cell (cell_lt' a0)).trans a0) (And.intro ((hb'.cell (cell_lt' a1)).trans a1) (And.intro ((hb'.cell (cell_lt' a2)).trans a2) (And.intro ((hb'.cell (cell_lt' a3)).trans a3) (And.intro ((hb'.cell (cell_lt' b0)).trans b0) (And.intro ((hb'.cell (cell_lt' b1)).trans b1) (And.intro ((hb'.cell (cell_lt' b2)).trans b2) (And.intro ((hb'.cell (cell_lt' b3)).trans b3) (And.intro ((hb'.cell (cell_lt' m0)).trans m0) (And.intro ((hb'.cell (cell_lt' m1)).trans m1) (And.intro ((hb'.cell (cell_lt' m2)).trans m2) (And.intro ((hb'.cell (cell_lt' m3)).trans m3) (And.intro ((hb'.cell (cell_lt' n0)).trans n0) (And.intro ((hb'.cell (cell_lt' n1)).trans n1) (And.intro ((hb'.cell (cell_lt' n2)).trans n2) (And.intro ((hb'.cell (cell_lt' n3)).trans n3) (hb7.trans (hb'.mono hb7.size)))))))))))))))))
         clear ho6 hb')
      | (go_at_call 93; obtain ⟨a0, a1, a2, a3, b0, b1, b2, b3, m0, m1, m2, m3, n0, n1, n2, n3, hb7⟩ : _ ∧ _ ∧ _ ∧ _ ∧ _ ∧ _ ∧ _ ∧ _ ∧ _ ∧ _ ∧ _ ∧ _ ∧ _ ∧ _ ∧ _ ∧ _ ∧ Below w7.heap.size w7 _ := by assumption
         refine (eqCall b _ _ _ _ _ hnb HRB.out (HPB7.out.below hb7) HO6.out).mono ?_
         rintro e w' ⟨rfl, hb'⟩
         have S2 := And.intro ((hb'.cell (cell_lt' a0)).trans a0) (And.intro ((hb'.cell (cell_lt' a1)).trans a1) (And.intro ((hb'.cell (cell_lt' a2)).trans a2) (And.intro ((hb'.cell (cell_lt' a3)).trans a3) (And.intro ((hb'.cell (cell_lt' b0)).trans b0) (And.intro ((hb'.cell (cell_lt' b1)).trans b1) (And.intro ((hb'.cell (cell_lt' b2)).trans b2) (And.intro ((hb'.cell (cell_lt' b3)).trans b3) (And.intro ((hb'.cell (cell_lt' m0)).trans m0) (And.intro ((hb'.cell (cell_lt' m1)).trans m1) (And.intro ((hb'.cell (cell_lt' m2)).trans m2) (And.intro ((hb'.cell (cell_lt' m3)).trans m3) (And.intro ((hb'.cell (cell_lt' n0)).trans n0) (And.intro ((hb'.cell (cell_lt' n1)).trans n1) (And.intro ((hb'.cell (cell_lt' n2)).trans n2) (And.intro ((hb'.cell (cell_lt' n3)).trans n3) (hb7.trans (hb'.mono hb7.size)))))))))))))))))
         clear hb'))
  all_goals
    obtain ⟨_, _, _, _, _, _, _, _, _, _, _, _, _, _, _, _, hb9⟩ : _ ∧ _ ∧ _ ∧ _ ∧ _ ∧ _ ∧ _ ∧ _ ∧ _ ∧ _ ∧ _ ∧ _ ∧ _ ∧ _ ∧ _ ∧ _ ∧ Below w7.heap.size w7 _ := by assumption
    go_wp2
    go_ret
    exact ⟨rfl, HB7.out.trans (hb9.mono HB7.out.size)⟩

theorem parOk : Try.f25.params.toList.all (fun t => Try.prog.readableRec t && decide (t < Try.prog.types.size)) = true := by kernel_rfl
set_option maxRecDepth 100000 in
theorem lifted (os : Os) (started : os.Started) (H : Type) (enc : TypeId × Value → H) :
    ReturnsInHanded {} Try.checked os 25 .any (Rows.fnExactComesBeforeSpec.pre6 enc Try.prog Try.f25 Rows.fnExactComesBeforeRow.domain false) (Rows.fnExactComesBeforeSpec.post enc Try.prog Try.f25 false true false false) := by
  refine law_lifted (C := Try.checked) own started (by kernel_rfl) Try.func25 laid (fun t ht => by
      have h := List.all_eq_true.1 parOk t ht
      rw [Bool.and_eq_true] at h
      exact ⟨h.1, of_decide_eq_true h.2⟩) rfl Try.underlying4 rfl
    (fun xs hx => by
      rw [show Try.f25.params.toList.length = 3 from by rw [Try.params25]; rfl] at hx
      match xs, hx with
      | [d0, d1, d2], _ => rfl)
    (ChangeSpec.witness6 (enc := enc) (C := Try.checked) false ⟨#[], #[.agg #[.bool false, .slice none 0 0, .int .i64 0, .int .i64 0], .agg #[.bool false, .slice none 0 0, .int .i64 0, .int .i64 0], .int .i64 0], []⟩ 8 (by kernel_rfl) (by kernel_rfl) (by kernel_rfl) (by kernel_rfl)) ?_
  intro W base args ds p hval0 hA0 _
  have hval : ∀ (j : Nat) t v, Try.f25.params[j]? = some t → args[j]? = some v → Value.okWide Try.prog W .any base t v := hval0
  have hA : DataW.TrodAll enc Try.prog W 0 (fun _ => true) true Try.f25.params.toList args.toList ds p := hA0
  clear hA0 hval0
  rw [Try.params25] at hA hval
  obtain ⟨v0, vs0, d0, ds0, p0, q0, hargs, rfl, rfl, h0, r0⟩ := trodAll_cons hA
  obtain ⟨v1, vs1, d1, ds1, p1, q1, rfl, rfl, rfl, h1, r1⟩ := trodAll_cons r0
  obtain ⟨v2, vs2, d2, ds2, p2, q2, rfl, rfl, rfl, h2, r2⟩ := trodAll_cons r1
  obtain ⟨rfl, rfl, rfl⟩ := trodAll_nil r2
  obtain rfl : args = #[v0, v1, v2] := by cases args; simp_all
  obtain ⟨C0, A0, c0, rfl, x0⟩ := open_call (hval 0 97 _ rfl rfl) h0
  obtain ⟨C1, A1, c1, rfl, x1⟩ := open_call (hval 1 97 _ rfl rfl) h1
  obtain ⟨a2, rfl, rfl, _, x2⟩ := open_int Try.underlying3 (hval 2 3 _ rfl rfl) h2
  exact walk C0 A0 c0 C1 A1 c1 a2 W x0 x1 x2

/-- The statement. -/
theorem proved : Rows.FnExactComesBeforeSaid :=
  OpenClaim.holds_of_wide 25 Try.f25 rfl rfl rfl rfl rfl rfl rfl ⟨rfl, rfl, rfl, rfl, rfl⟩ rfl rfl rfl rfl rfl (by kernel_rfl) Try.func25 (by show joinedFacts Try.prog _ _ _ _ = true; unfold joinedFacts; rw [Io.mayEnter, Io.liftsFinal, Io.make]; kernel_rfl)
    (of_decide_eq_true (by kernel_rfl)) (by unfold Func.isWrapper; first | (rw [if_pos (by decide +kernel)]; kernel_rfl) | (rw [if_neg (by decide +kernel)]; exact ⟨rfl, rfl⟩))
    (fun os started H enc _ => lifted os started H enc)
#print axioms proved
end Go.Proofs.Ytmfeleocjmdooaa.fnExactComesBefore
