/- A lock with its gate shut: of the program and of the model. -/
import Derived.Test.YtmfeleocjmdooaaLkD
namespace Go.Proofs.Ytmfeleocjmdooaa.C1
open Go.ChangeShapes Go.WideShapes Go.ChangeAt Go.RowKit
set_option linter.unusedVariables false

def shutK (k : Lk) (S : List Tr) : Lk := if lkB k S = true then { k with ga := 0 } else k
set_option maxRecDepth 100000 in
set_option maxHeartbeats 4000000 in
theorem shut_impl (k : Lk) (A : Option Addr) (c : Nat) (S : List Tr) (w : World) (hm : ModS S) (hp : Trs w A S) :
    Calls Try.prog 82 #[.agg #[.int .i64 k.le, .int .i64 k.wi, .int .i64 k.sa, .int .i64 k.sb, .int .i64 k.ba, .int .i64 k.ar, .int .i64 k.ra, .int .i64 k.wa, .int .i64 k.ga, .slice A S.length c]] w (GivesKO w (shutK k S) S) := by
  have HP := vl hp
  have HM := vl hm
  have hn := hm.len
  have HB0 := vl ((((Below.refl w.heap.size w).alloc (Nat.le_refl _) (.cells #[.int .i64 k.le, .int .i64 k.wi, .int .i64 k.sa, .int .i64 k.sb, .int .i64 k.ba, .int .i64 k.ar, .int .i64 k.ra, .int .i64 k.wa, .int .i64 k.ga, .slice A S.length c] 73)).alloc (by simp) (.cells #[.int .i64 0, .int .i64 0, .int .i64 0, .int .i64 0, .int .i64 0, .int .i64 0, .int .i64 0, .int .i64 0, .int .i64 0, .slice none 0 0] 73)))
  have h1 := KBoxF.new w k (.slice A S.length c) 73
  have h1' := vl (h1.block (Below.heap_alloc _ (.cells #[.int .i64 0, .int .i64 0, .int .i64 0, .int .i64 0, .int .i64 0, .int .i64 0, .int .i64 0, .int .i64 0, .int .i64 0, .slice none 0 0] 73) _ (by simp)))
  have h2 : KBoxF ((w.alloc (.cells #[.int .i64 k.le, .int .i64 k.wi, .int .i64 k.sa, .int .i64 k.sb, .int .i64 k.ba, .int .i64 k.ar, .int .i64 k.ra, .int .i64 k.wa, .int .i64 k.ga, .slice A S.length c] 73)).alloc (.cells #[.int .i64 0, .int .i64 0, .int .i64 0, .int .i64 0, .int .i64 0, .int .i64 0, .int .i64 0, .int .i64 0, .int .i64 0, .slice none 0 0] 73)) (w.alloc (.cells #[.int .i64 k.le, .int .i64 k.wi, .int .i64 k.sa, .int .i64 k.sb, .int .i64 k.ba, .int .i64 k.ar, .int .i64 k.ra, .int .i64 k.wa, .int .i64 k.ga, .slice A S.length c] 73)).heap.size k0 (.slice none 0 0) := KBoxF.new (w.alloc (.cells #[.int .i64 k.le, .int .i64 k.wi, .int .i64 k.sa, .int .i64 k.sb, .int .i64 k.ba, .int .i64 k.ar, .int .i64 k.ra, .int .i64 k.wa, .int .i64 k.ga, .slice A S.length c] 73)) k0 (.slice none 0 0) 73
  simp only [World.size_alloc] at h2
  have HY0 := vl h2
  have hw0 : ((w.alloc (.cells #[.int .i64 k.le, .int .i64 k.wi, .int .i64 k.sa, .int .i64 k.sb, .int .i64 k.ba, .int .i64 k.ar, .int .i64 k.ra, .int .i64 k.wa, .int .i64 k.ga, .slice A S.length c] 73)).alloc (.cells #[.int .i64 0, .int .i64 0, .int .i64 0, .int .i64 0, .int .i64 0, .int .i64 0, .int .i64 0, .int .i64 0, .int .i64 0, .slice none 0 0] 73)).heap.size = w.heap.size + 2 := by simp
  generalize hW0 : (w.alloc (.cells #[.int .i64 k.le, .int .i64 k.wi, .int .i64 k.sa, .int .i64 k.sb, .int .i64 k.ba, .int .i64 k.ar, .int .i64 k.ra, .int .i64 k.wa, .int .i64 k.ga, .slice A S.length c] 73)).alloc (.cells #[.int .i64 0, .int .i64 0, .int .i64 0, .int .i64 0, .int .i64 0, .int .i64 0, .int .i64 0, .int .i64 0, .int .i64 0, .slice none 0 0] 73) = W0 at HB0 h1' HY0 hw0
  obtain ⟨⟨x0, x1, x2, x3, x4, x5, x6, x7, x8, x9⟩, _⟩ := h1'.out
  clear hp hm h1 h2
  go_enter Try.func82, Try.ntmps82
  go_wp2_with fail
  refine (copyK_impl k A c S _ HM.out (HP.out.below HB0.out)).mono ?_
  clear x0 x1 x2 x3 x4 x5 x6 x7 x8 x9 hW0
  rintro e w1 ⟨⟨V, d, ys, lo, hi, gg, GG, rfl, hG⟩, hb1⟩
  rw [hw0] at hG
  have hz1 := hb1.size
  have HB1 := vl (HB0.out.trans (hb1.mono HB0.out.size))
  have HX1 := vl (h1'.out.below hb1 h1'.out.lt)
  have HY1 := vl (HY0.out.below hb1 HY0.out.lt)
  have HG1 := vl hG
  have hba := (Below.refl w1.heap.size w1).alloc (Nat.le_refl _) (.cells #[.int .i64 k.le, .int .i64 k.wi, .int .i64 k.sa, .int .i64 k.sb, .int .i64 k.ba, .int .i64 k.ar, .int .i64 k.ra, .int .i64 k.wa, .int .i64 k.ga, .slice V S.length d] 73)
  have HB2 := vl (HB1.out.trans (hba.mono HB1.out.size))
  have HX2 := vl (HX1.out.below hba HX1.out.lt)
  have HY2 := vl (HY1.out.below hba HY1.out.lt)
  have HZ2 := vl (KBoxF.new w1 k (.slice V S.length d) 73)
  have HC2 := vl hba
  have hz2 : (w1.alloc (.cells #[.int .i64 k.le, .int .i64 k.wi, .int .i64 k.sa, .int .i64 k.sb, .int .i64 k.ba, .int .i64 k.ar, .int .i64 k.ra, .int .i64 k.wa, .int .i64 k.ga, .slice V S.length d] 73)).heap.size = w1.heap.size + 1 := by simp
  clear hG hb1 hba HX1 HY1 HB1 h1' HY0
  obtain ⟨⟨x0, x1, x2, x3, x4, x5, x6, x7, x8, x9⟩, _⟩ := HX2.out
  have hz : w.heap.size < w1.heap.size := by omega
  go_wp2_with fail
  refine (lok_impl k A c S _ HM.out (HP.out.below HB2.out)).mono ?_
  clear x0 x1 x2 x3 x4 x5 x6 x7 x8 x9
  rintro e w3 ⟨rfl, hb3⟩
  have HB3 := vl (HB2.out.trans (hb3.mono HB2.out.size))
  have HY3 := vl (HY2.out.below hb3 HY2.out.lt)
  have HZ3 := vl (HZ2.out.below hb3 HZ2.out.lt)
  have HC3 := vl (HC2.out.trans (hb3.mono HC2.out.size))
  have hz3 := hb3.size
  clear hb3 HB2 HX2 HY2 HZ2 HC2
  obtain ⟨⟨y0, y1, y2, y3, y4, y5, y6, y7, y8, y9⟩, hf⟩ := HY3.out
  have f0 := hf 0 (by decide); have f1 := hf 1 (by decide); have f2 := hf 2 (by decide); have f3 := hf 3 (by decide); have f4 := hf 4 (by decide)
  have f5 := hf 5 (by decide); have f6 := hf 6 (by decide); have f7 := hf 7 (by decide); have f8 := hf 8 (by decide); have f9 := hf 9 (by decide)
  clear hf
  obtain ⟨⟨c0, c1, c2, c3, c4, c5, c6, c7, c8, c9⟩, hcf⟩ := HZ3.out
  have g8 := hcf 8 (by decide)
  clear hcf
  cases hok : lkB k S with
  | false =>
    have HE := vl (show shutK k S = k by unfold shutK; rw [hok]; rfl)
    clear hok
    go_wp2
    refine bodyPost_ret (v := .agg #[.int .i64 k.le, .int .i64 k.wi, .int .i64 k.sa, .int .i64 k.sb, .int .i64 k.ba, .int .i64 k.ar, .int .i64 k.ra, .int .i64 k.wa, .int .i64 k.ga, .slice V S.length d]) (by simp [results, Try.results82, go_sem, y0, y1, y2, y3, y4, y5, y6, y7, y8, y9]) rfl ?_
    clear c0 c1 c2 c3 c4 c5 c6 c7 c8 c9 y0 y1 y2 y3 y4 y5 y6 y7 y8 y9 f0 f1 f2 f3 f4 f5 f6 f7 f8 f9 g8
    have key : ∀ W' : World, Touch w3 W' (w.heap.size + 1) (w.heap.size + 2) → GivesKO w k S (.returned (.agg #[.int .i64 k.le, .int .i64 k.wi, .int .i64 k.sa, .int .i64 k.sb, .int .i64 k.ba, .int .i64 k.ar, .int .i64 k.ra, .int .i64 k.wa, .int .i64 k.ga, .slice V S.length d])) W' := fun W' hT =>
      ⟨⟨V, d, ys, lo, hi, gg, GG, rfl, ((HG1.out.below HC3.out).touch hT (Nat.le_refl _)).wide (by omega)⟩, hT.below HB3.out (by omega)⟩
    rw [HE.out]
    refine key _ ?_
    iterate 10 (with_reducible refine Touch.set ?_ _ _ _ (by omega) (by omega))
    exact Touch.refl _ _ _
  | true =>
    have HE := vl (show shutK k S = { k with ga := 0 } by unfold shutK; rw [if_pos hok])
    clear hok
    go_wp2
    refine bodyPost_ret (v := .agg #[.int .i64 k.le, .int .i64 k.wi, .int .i64 k.sa, .int .i64 k.sb, .int .i64 k.ba, .int .i64 k.ar, .int .i64 k.ra, .int .i64 k.wa, .int .i64 0, .slice V S.length d]) (by simp [results, Try.results82, go_sem, y0, y1, y2, y3, y4, y5, y6, y7, y8, y9]) rfl ?_
    clear c0 c1 c2 c3 c4 c5 c6 c7 c8 c9 y0 y1 y2 y3 y4 y5 y6 y7 y8 y9 f0 f1 f2 f3 f4 f5 f6 f7 f8 f9 g8
    have HC4 := vl (show Below w1.heap.size w1 (w3.setCell ⟨w1.heap.size, 8, none⟩ (.int .i64 0)) from HC3.out.setCell (Nat.le_refl _) _)
    have HB4 := vl (show Below w.heap.size w (w3.setCell ⟨w1.heap.size, 8, none⟩ (.int .i64 0)) from HB3.out.setCell (by show w.heap.size ≤ w1.heap.size; omega) _)
    have key : ∀ W' : World, Touch (w3.setCell ⟨w1.heap.size, 8, none⟩ (.int .i64 0)) W' (w.heap.size + 1) (w.heap.size + 2) → GivesKO w { k with ga := 0 } S (.returned (.agg #[.int .i64 k.le, .int .i64 k.wi, .int .i64 k.sa, .int .i64 k.sb, .int .i64 k.ba, .int .i64 k.ar, .int .i64 k.ra, .int .i64 k.wa, .int .i64 0, .slice V S.length d])) W' := fun W' hT =>
      ⟨⟨V, d, ys, lo, hi, gg, GG, rfl, ((HG1.out.below HC4.out).touch hT (Nat.le_refl _)).wide (by omega)⟩, hT.below HB4.out (by omega)⟩
    rw [HE.out]
    refine key _ ?_
    iterate 10 (with_reducible refine Touch.set ?_ _ _ _ (by omega) (by omega))
    exact Touch.refl _ _ _
set_option maxRecDepth 100000 in
set_option maxHeartbeats 4000000 in
theorem shut_spec (k : Lk) (A : Option Addr) (c : Nat) (S : List Tr) (w : World) (hm : ModS S) (hp : Trs w A S) :
    Calls Try.prog 81 #[.agg #[.int .i64 k.le, .int .i64 k.wi, .int .i64 k.sa, .int .i64 k.sb, .int .i64 k.ba, .int .i64 k.ar, .int .i64 k.ra, .int .i64 k.wa, .int .i64 k.ga, .slice A S.length c]] w (GivesKO w (shutK k S) S) := by
  have HP := vl hp
  have HM := vl hm
  have hn := hm.len
  have HB0 := vl ((((Below.refl w.heap.size w).alloc (Nat.le_refl _) (.cells #[.int .i64 k.le, .int .i64 k.wi, .int .i64 k.sa, .int .i64 k.sb, .int .i64 k.ba, .int .i64 k.ar, .int .i64 k.ra, .int .i64 k.wa, .int .i64 k.ga, .slice A S.length c] 73)).alloc (by simp) (.cells #[.int .i64 0, .int .i64 0, .int .i64 0, .int .i64 0, .int .i64 0, .int .i64 0, .int .i64 0, .int .i64 0, .int .i64 0, .slice none 0 0] 73)))
  have h1 := KBoxF.new w k (.slice A S.length c) 73
  have h1' := vl (h1.block (Below.heap_alloc _ (.cells #[.int .i64 0, .int .i64 0, .int .i64 0, .int .i64 0, .int .i64 0, .int .i64 0, .int .i64 0, .int .i64 0, .int .i64 0, .slice none 0 0] 73) _ (by simp)))
  have h2 : KBoxF ((w.alloc (.cells #[.int .i64 k.le, .int .i64 k.wi, .int .i64 k.sa, .int .i64 k.sb, .int .i64 k.ba, .int .i64 k.ar, .int .i64 k.ra, .int .i64 k.wa, .int .i64 k.ga, .slice A S.length c] 73)).alloc (.cells #[.int .i64 0, .int .i64 0, .int .i64 0, .int .i64 0, .int .i64 0, .int .i64 0, .int .i64 0, .int .i64 0, .int .i64 0, .slice none 0 0] 73)) (w.alloc (.cells #[.int .i64 k.le, .int .i64 k.wi, .int .i64 k.sa, .int .i64 k.sb, .int .i64 k.ba, .int .i64 k.ar, .int .i64 k.ra, .int .i64 k.wa, .int .i64 k.ga, .slice A S.length c] 73)).heap.size k0 (.slice none 0 0) := KBoxF.new (w.alloc (.cells #[.int .i64 k.le, .int .i64 k.wi, .int .i64 k.sa, .int .i64 k.sb, .int .i64 k.ba, .int .i64 k.ar, .int .i64 k.ra, .int .i64 k.wa, .int .i64 k.ga, .slice A S.length c] 73)) k0 (.slice none 0 0) 73
  simp only [World.size_alloc] at h2
  have HY0 := vl h2
  have hw0 : ((w.alloc (.cells #[.int .i64 k.le, .int .i64 k.wi, .int .i64 k.sa, .int .i64 k.sb, .int .i64 k.ba, .int .i64 k.ar, .int .i64 k.ra, .int .i64 k.wa, .int .i64 k.ga, .slice A S.length c] 73)).alloc (.cells #[.int .i64 0, .int .i64 0, .int .i64 0, .int .i64 0, .int .i64 0, .int .i64 0, .int .i64 0, .int .i64 0, .int .i64 0, .slice none 0 0] 73)).heap.size = w.heap.size + 2 := by simp
  generalize hW0 : (w.alloc (.cells #[.int .i64 k.le, .int .i64 k.wi, .int .i64 k.sa, .int .i64 k.sb, .int .i64 k.ba, .int .i64 k.ar, .int .i64 k.ra, .int .i64 k.wa, .int .i64 k.ga, .slice A S.length c] 73)).alloc (.cells #[.int .i64 0, .int .i64 0, .int .i64 0, .int .i64 0, .int .i64 0, .int .i64 0, .int .i64 0, .int .i64 0, .int .i64 0, .slice none 0 0] 73) = W0 at HB0 h1' HY0 hw0
  obtain ⟨⟨x0, x1, x2, x3, x4, x5, x6, x7, x8, x9⟩, _⟩ := h1'.out
  clear hp hm h1 h2
  go_enter Try.func81, Try.ntmps81
  go_wp2_with fail
  refine (copyK_spec k A c S _ HM.out (HP.out.below HB0.out)).mono ?_
  clear x0 x1 x2 x3 x4 x5 x6 x7 x8 x9 hW0
  rintro e w1 ⟨⟨V, d, ys, lo, hi, gg, GG, rfl, hG⟩, hb1⟩
  rw [hw0] at hG
  have hz1 := hb1.size
  have HB1 := vl (HB0.out.trans (hb1.mono HB0.out.size))
  have HX1 := vl (h1'.out.below hb1 h1'.out.lt)
  have HY1 := vl (HY0.out.below hb1 HY0.out.lt)
  have HG1 := vl hG
  have hba := (Below.refl w1.heap.size w1).alloc (Nat.le_refl _) (.cells #[.int .i64 k.le, .int .i64 k.wi, .int .i64 k.sa, .int .i64 k.sb, .int .i64 k.ba, .int .i64 k.ar, .int .i64 k.ra, .int .i64 k.wa, .int .i64 k.ga, .slice V S.length d] 73)
  have HB2 := vl (HB1.out.trans (hba.mono HB1.out.size))
  have HX2 := vl (HX1.out.below hba HX1.out.lt)
  have HY2 := vl (HY1.out.below hba HY1.out.lt)
  have HZ2 := vl (KBoxF.new w1 k (.slice V S.length d) 73)
  have HC2 := vl hba
  have hz2 : (w1.alloc (.cells #[.int .i64 k.le, .int .i64 k.wi, .int .i64 k.sa, .int .i64 k.sb, .int .i64 k.ba, .int .i64 k.ar, .int .i64 k.ra, .int .i64 k.wa, .int .i64 k.ga, .slice V S.length d] 73)).heap.size = w1.heap.size + 1 := by simp
  clear hG hb1 hba HX1 HY1 HB1 h1' HY0
  obtain ⟨⟨x0, x1, x2, x3, x4, x5, x6, x7, x8, x9⟩, _⟩ := HX2.out
  have hz : w.heap.size < w1.heap.size := by omega
  go_wp2_with fail
  refine (lok_spec k A c S _ HM.out (HP.out.below HB2.out)).mono ?_
  clear x0 x1 x2 x3 x4 x5 x6 x7 x8 x9
  rintro e w3 ⟨rfl, hb3⟩
  have HB3 := vl (HB2.out.trans (hb3.mono HB2.out.size))
  have HY3 := vl (HY2.out.below hb3 HY2.out.lt)
  have HZ3 := vl (HZ2.out.below hb3 HZ2.out.lt)
  have HC3 := vl (HC2.out.trans (hb3.mono HC2.out.size))
  have hz3 := hb3.size
  clear hb3 HB2 HX2 HY2 HZ2 HC2
  obtain ⟨⟨y0, y1, y2, y3, y4, y5, y6, y7, y8, y9⟩, hf⟩ := HY3.out
  have f0 := hf 0 (by decide); have f1 := hf 1 (by decide); have f2 := hf 2 (by decide); have f3 := hf 3 (by decide); have f4 := hf 4 (by decide)
  have f5 := hf 5 (by decide); have f6 := hf 6 (by decide); have f7 := hf 7 (by decide); have f8 := hf 8 (by decide); have f9 := hf 9 (by decide)
  clear hf
  obtain ⟨⟨c0, c1, c2, c3, c4, c5, c6, c7, c8, c9⟩, hcf⟩ := HZ3.out
  have g8 := hcf 8 (by decide)
  clear hcf
  cases hok : lkB k S with
  | false =>
    have HE := vl (show shutK k S = k by unfold shutK; rw [hok]; rfl)
    clear hok
    go_wp2
    refine bodyPost_ret (v := .agg #[.int .i64 k.le, .int .i64 k.wi, .int .i64 k.sa, .int .i64 k.sb, .int .i64 k.ba, .int .i64 k.ar, .int .i64 k.ra, .int .i64 k.wa, .int .i64 k.ga, .slice V S.length d]) (by simp [results, Try.results81, go_sem, y0, y1, y2, y3, y4, y5, y6, y7, y8, y9]) rfl ?_
    clear c0 c1 c2 c3 c4 c5 c6 c7 c8 c9 y0 y1 y2 y3 y4 y5 y6 y7 y8 y9 f0 f1 f2 f3 f4 f5 f6 f7 f8 f9 g8
    have key : ∀ W' : World, Touch w3 W' (w.heap.size + 1) (w.heap.size + 2) → GivesKO w k S (.returned (.agg #[.int .i64 k.le, .int .i64 k.wi, .int .i64 k.sa, .int .i64 k.sb, .int .i64 k.ba, .int .i64 k.ar, .int .i64 k.ra, .int .i64 k.wa, .int .i64 k.ga, .slice V S.length d])) W' := fun W' hT =>
      ⟨⟨V, d, ys, lo, hi, gg, GG, rfl, ((HG1.out.below HC3.out).touch hT (Nat.le_refl _)).wide (by omega)⟩, hT.below HB3.out (by omega)⟩
    rw [HE.out]
    refine key _ ?_
    iterate 10 (with_reducible refine Touch.set ?_ _ _ _ (by omega) (by omega))
    exact Touch.refl _ _ _
  | true =>
    have HE := vl (show shutK k S = { k with ga := 0 } by unfold shutK; rw [if_pos hok])
    clear hok
    go_wp2
    refine bodyPost_ret (v := .agg #[.int .i64 k.le, .int .i64 k.wi, .int .i64 k.sa, .int .i64 k.sb, .int .i64 k.ba, .int .i64 k.ar, .int .i64 k.ra, .int .i64 k.wa, .int .i64 0, .slice V S.length d]) (by simp [results, Try.results81, go_sem, y0, y1, y2, y3, y4, y5, y6, y7, y8, y9]) rfl ?_
    clear c0 c1 c2 c3 c4 c5 c6 c7 c8 c9 y0 y1 y2 y3 y4 y5 y6 y7 y8 y9 f0 f1 f2 f3 f4 f5 f6 f7 f8 f9 g8
    have HC4 := vl (show Below w1.heap.size w1 (w3.setCell ⟨w1.heap.size, 8, none⟩ (.int .i64 0)) from HC3.out.setCell (Nat.le_refl _) _)
    have HB4 := vl (show Below w.heap.size w (w3.setCell ⟨w1.heap.size, 8, none⟩ (.int .i64 0)) from HB3.out.setCell (by show w.heap.size ≤ w1.heap.size; omega) _)
    have key : ∀ W' : World, Touch (w3.setCell ⟨w1.heap.size, 8, none⟩ (.int .i64 0)) W' (w.heap.size + 1) (w.heap.size + 2) → GivesKO w { k with ga := 0 } S (.returned (.agg #[.int .i64 k.le, .int .i64 k.wi, .int .i64 k.sa, .int .i64 k.sb, .int .i64 k.ba, .int .i64 k.ar, .int .i64 k.ra, .int .i64 k.wa, .int .i64 0, .slice V S.length d])) W' := fun W' hT =>
      ⟨⟨V, d, ys, lo, hi, gg, GG, rfl, ((HG1.out.below HC4.out).touch hT (Nat.le_refl _)).wide (by omega)⟩, hT.below HB4.out (by omega)⟩
    rw [HE.out]
    refine key _ ?_
    iterate 10 (with_reducible refine Touch.set ?_ _ _ _ (by omega) (by omega))
    exact Touch.refl _ _ _
end Go.Proofs.Ytmfeleocjmdooaa.C1
