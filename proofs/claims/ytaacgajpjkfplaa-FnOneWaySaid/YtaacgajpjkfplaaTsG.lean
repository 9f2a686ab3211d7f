/- Turns and stretches: NoteTurn, MayPass, EnterStretch, LeaveStretch, of the program and of its model. -/
import Derived.Test.YtaacgajpjkfplaaTsF
namespace Go.Proofs.Ytaacgajpjkfplaa.C1
open Go.ChangeShapes Go.WideShapes Go.ChangeAt Go.RowKit
set_option linter.unusedVariables false
set_option linter.unusedSimpArgs false

set_option maxHeartbeats 2000000 in
theorem enter_spec (S : Sr) (up : Bool) (w : World) : Calls Try.prog 34 #[.agg #[.bool S.u, .int .i64 S.i, .int .i64 S.r, .int .i64 S.l], .bool up] w (GivesSr w (enterS S up)) := by
  obtain ⟨u, i, r, l⟩ := S
  have hx : Box4 ((w.alloc (.cells #[.bool u, .int .i64 i, .int .i64 r, .int .i64 l] 26)).alloc (.cells #[.bool false, .int .i64 0, .int .i64 0, .int .i64 0] 26)) w.heap.size (.bool u) (.int .i64 i) (.int .i64 r) (.int .i64 l) 26 := (Box4.new w (.bool u) (.int .i64 i) (.int .i64 r) (.int .i64 l) 26).alloc _
  have hy : Box4 ((w.alloc (.cells #[.bool u, .int .i64 i, .int .i64 r, .int .i64 l] 26)).alloc (.cells #[.bool false, .int .i64 0, .int .i64 0, .int .i64 0] 26)) (w.heap.size + 1) (.bool false) (.int .i64 0) (.int .i64 0) (.int .i64 0) 26 := by
    have := Box4.new (w.alloc (.cells #[.bool u, .int .i64 i, .int .i64 r, .int .i64 l] 26)) (.bool false) (.int .i64 0) (.int .i64 0) (.int .i64 0) 26
    simpa using this
  have HXY := Lib.hid (And.intro hx hy)
  have HB0 := Lib.hid (((Below.refl w.heap.size w).alloc (Nat.le_refl _) (.cells #[.bool u, .int .i64 i, .int .i64 r, .int .i64 l] 26)).alloc (by simp) (.cells #[.bool false, .int .i64 0, .int .i64 0, .int .i64 0] 26))
  clear hx hy
  show Calls Try.prog 34 #[.agg #[.bool u, .int .i64 i, .int .i64 r, .int .i64 l], .bool up] w _
  cases hm : mayP ⟨u, i, r, l⟩ up false with
  | false =>
    have HN := Lib.hid (show enterS ⟨u, i, r, l⟩ up = ⟨u, i, r, l⟩ by unfold enterS; rw [if_neg (by rw [hm]; simp)])
    have HM := Lib.hid hm
    clear hm
    go_enter Try.func34, Try.ntmps34
    go_wp2_with fail
    refine (may_spec ⟨u, i, r, l⟩ up false _).mono ?_
    rintro e w1 ⟨rfl, hb1⟩
    rw [HM.out]
    have HX := Lib.hid (HXY.out.1.below hb1)
    have HY := Lib.hid (HXY.out.2.below hb1)
    have HB1 := Lib.hid (HB0.out.trans (hb1.mono (by simp; omega)))
    have q1 := HX.out.lt
    have q2 := HY.out.lt
    obtain ⟨x0, x1, x2, x3⟩ := HX.out.at
    obtain ⟨y0, y1, y2, y3⟩ := HY.out.at
    obtain ⟨f0, f1, f2, f3⟩ := HX.out.free
    obtain ⟨g0, g1, g2, g3⟩ := HY.out.free
    clear hb1 HXY
    go_wp2
    refine bodyPost_ret (v := .agg #[.bool u, .int .i64 i, .int .i64 r, .int .i64 l]) (by simp [results, Try.results34, go_sem, x0, x1, x2, x3, y0, y1, y2, y3]) rfl ?_
    exact ⟨by rw [HN.out], by (repeat' (first | (with_reducible exact Below.refl _ _) | (with_reducible refine Below.drew ?_) | (with_reducible refine Below.alloc ?_ ?_ _) | (with_reducible refine Below.setCell ?_ ?_ _) | (with_reducible refine Below.trans ?_ (HB1.out.mono ?_)) | (first | omega | (simp; omega) | (simp; done))))⟩
  | true =>
    have HM := Lib.hid hm
    have hok : srOk ⟨u, i, r, l⟩ = true := by
      unfold mayP at hm
      rw [Bool.and_eq_true] at hm
      exact hm.1
    obtain ⟨⟨i0, i1⟩, ⟨r0, r1⟩, _, _⟩ := srOk_iff.1 hok
    simp only at i0 i1 r0 r1
    clear hok
    by_cases hr : r = 1000000
    · have hr' : (r == 1000000) = true := by simp [hr]
      cases u <;> cases up
      · have HN := Lib.hid (show enterS ⟨false, i, r, l⟩ false = ⟨false, i, r, l⟩ by unfold enterS; rw [if_neg (fun h => h.2 ⟨hr, rfl⟩)])
        clear hr hm
        go_enter Try.func34, Try.ntmps34
        go_wp2_with fail
        refine (may_spec ⟨false, i, r, l⟩ false false _).mono ?_
        rintro e w1 ⟨rfl, hb1⟩
        rw [HM.out]
        have HX := Lib.hid (HXY.out.1.below hb1)
        have HY := Lib.hid (HXY.out.2.below hb1)
        have HB1 := Lib.hid (HB0.out.trans (hb1.mono (by simp; omega)))
        have q1 := HX.out.lt
        have q2 := HY.out.lt
        obtain ⟨x0, x1, x2, x3⟩ := HX.out.at
        obtain ⟨y0, y1, y2, y3⟩ := HY.out.at
        obtain ⟨f0, f1, f2, f3⟩ := HX.out.free
        obtain ⟨g0, g1, g2, g3⟩ := HY.out.free
        clear hb1 HXY
        go_wp2
        refine bodyPost_ret (v := .agg #[.bool false, .int .i64 i, .int .i64 r, .int .i64 l]) (by simp [results, Try.results34, go_sem, x0, x1, x2, x3, y0, y1, y2, y3]) rfl ?_
        exact ⟨by rw [HN.out], by (repeat' (first | (with_reducible exact Below.refl _ _) | (with_reducible refine Below.drew ?_) | (with_reducible refine Below.alloc ?_ ?_ _) | (with_reducible refine Below.setCell ?_ ?_ _) | (with_reducible refine Below.trans ?_ (HB1.out.mono ?_)) | (first | omega | (simp; omega) | (simp; done))))⟩
      · have HN := Lib.hid (show enterS ⟨false, i, r, l⟩ true = ⟨true, i + 1, 1, l⟩ by unfold enterS; rw [if_pos ⟨hm, fun h => by cases h.2⟩]; rfl)
        clear hr hm
        go_enter Try.func34, Try.ntmps34
        go_wp2_with fail
        refine (may_spec ⟨false, i, r, l⟩ true false _).mono ?_
        rintro e w1 ⟨rfl, hb1⟩
        rw [HM.out]
        have HX := Lib.hid (HXY.out.1.below hb1)
        have HY := Lib.hid (HXY.out.2.below hb1)
        have HB1 := Lib.hid (HB0.out.trans (hb1.mono (by simp; omega)))
        have q1 := HX.out.lt
        have q2 := HY.out.lt
        obtain ⟨x0, x1, x2, x3⟩ := HX.out.at
        obtain ⟨y0, y1, y2, y3⟩ := HY.out.at
        obtain ⟨f0, f1, f2, f3⟩ := HX.out.free
        obtain ⟨g0, g1, g2, g3⟩ := HY.out.free
        clear hb1 HXY
        go_wp2
        refine bodyPost_ret (v := .agg #[.bool true, .int .i64 (i + 1), .int .i64 1, .int .i64 l]) (by simp [results, Try.results34, go_sem, x0, x1, x2, x3, y0, y1, y2, y3]) rfl ?_
        exact ⟨by rw [HN.out], by (repeat' (first | (with_reducible exact Below.refl _ _) | (with_reducible refine Below.drew ?_) | (with_reducible refine Below.alloc ?_ ?_ _) | (with_reducible refine Below.setCell ?_ ?_ _) | (with_reducible refine Below.trans ?_ (HB1.out.mono ?_)) | (first | omega | (simp; omega) | (simp; done))))⟩
      · have HN := Lib.hid (show enterS ⟨true, i, r, l⟩ false = ⟨false, i + 1, 1, l⟩ by unfold enterS; rw [if_pos ⟨hm, fun h => by cases h.2⟩]; rfl)
        clear hr hm
        go_enter Try.func34, Try.ntmps34
        go_wp2_with fail
        refine (may_spec ⟨true, i, r, l⟩ false false _).mono ?_
        rintro e w1 ⟨rfl, hb1⟩
        rw [HM.out]
        have HX := Lib.hid (HXY.out.1.below hb1)
        have HY := Lib.hid (HXY.out.2.below hb1)
        have HB1 := Lib.hid (HB0.out.trans (hb1.mono (by simp; omega)))
        have q1 := HX.out.lt
        have q2 := HY.out.lt
        obtain ⟨x0, x1, x2, x3⟩ := HX.out.at
        obtain ⟨y0, y1, y2, y3⟩ := HY.out.at
        obtain ⟨f0, f1, f2, f3⟩ := HX.out.free
        obtain ⟨g0, g1, g2, g3⟩ := HY.out.free
        clear hb1 HXY
        go_wp2
        refine bodyPost_ret (v := .agg #[.bool false, .int .i64 (i + 1), .int .i64 1, .int .i64 l]) (by simp [results, Try.results34, go_sem, x0, x1, x2, x3, y0, y1, y2, y3]) rfl ?_
        exact ⟨by rw [HN.out], by (repeat' (first | (with_reducible exact Below.refl _ _) | (with_reducible refine Below.drew ?_) | (with_reducible refine Below.alloc ?_ ?_ _) | (with_reducible refine Below.setCell ?_ ?_ _) | (with_reducible refine Below.trans ?_ (HB1.out.mono ?_)) | (first | omega | (simp; omega) | (simp; done))))⟩
      · have HN := Lib.hid (show enterS ⟨true, i, r, l⟩ true = ⟨true, i, r, l⟩ by unfold enterS; rw [if_neg (fun h => h.2 ⟨hr, rfl⟩)])
        clear hr hm
        go_enter Try.func34, Try.ntmps34
        go_wp2_with fail
        refine (may_spec ⟨true, i, r, l⟩ true false _).mono ?_
        rintro e w1 ⟨rfl, hb1⟩
        rw [HM.out]
        have HX := Lib.hid (HXY.out.1.below hb1)
        have HY := Lib.hid (HXY.out.2.below hb1)
        have HB1 := Lib.hid (HB0.out.trans (hb1.mono (by simp; omega)))
        have q1 := HX.out.lt
        have q2 := HY.out.lt
        obtain ⟨x0, x1, x2, x3⟩ := HX.out.at
        obtain ⟨y0, y1, y2, y3⟩ := HY.out.at
        obtain ⟨f0, f1, f2, f3⟩ := HX.out.free
        obtain ⟨g0, g1, g2, g3⟩ := HY.out.free
        clear hb1 HXY
        go_wp2
        refine bodyPost_ret (v := .agg #[.bool true, .int .i64 i, .int .i64 r, .int .i64 l]) (by simp [results, Try.results34, go_sem, x0, x1, x2, x3, y0, y1, y2, y3]) rfl ?_
        exact ⟨by rw [HN.out], by (repeat' (first | (with_reducible exact Below.refl _ _) | (with_reducible refine Below.drew ?_) | (with_reducible refine Below.alloc ?_ ?_ _) | (with_reducible refine Below.setCell ?_ ?_ _) | (with_reducible refine Below.trans ?_ (HB1.out.mono ?_)) | (first | omega | (simp; omega) | (simp; done))))⟩
    · have hr' : (r == 1000000) = false := by simp [hr]
      cases u <;> cases up
      · have HN := Lib.hid (show enterS ⟨false, i, r, l⟩ false = ⟨false, i + 1, (r + 1), l⟩ by unfold enterS; rw [if_pos ⟨hm, fun h => hr h.1⟩]; rfl)
        clear hr hm
        go_enter Try.func34, Try.ntmps34
        go_wp2_with fail
        refine (may_spec ⟨false, i, r, l⟩ false false _).mono ?_
        rintro e w1 ⟨rfl, hb1⟩
        rw [HM.out]
        have HX := Lib.hid (HXY.out.1.below hb1)
        have HY := Lib.hid (HXY.out.2.below hb1)
        have HB1 := Lib.hid (HB0.out.trans (hb1.mono (by simp; omega)))
        have q1 := HX.out.lt
        have q2 := HY.out.lt
        obtain ⟨x0, x1, x2, x3⟩ := HX.out.at
        obtain ⟨y0, y1, y2, y3⟩ := HY.out.at
        obtain ⟨f0, f1, f2, f3⟩ := HX.out.free
        obtain ⟨g0, g1, g2, g3⟩ := HY.out.free
        clear hb1 HXY
        go_wp2
        refine bodyPost_ret (v := .agg #[.bool false, .int .i64 (i + 1), .int .i64 (r + 1), .int .i64 l]) (by simp [results, Try.results34, go_sem, x0, x1, x2, x3, y0, y1, y2, y3]) rfl ?_
        exact ⟨by rw [HN.out], by (repeat' (first | (with_reducible exact Below.refl _ _) | (with_reducible refine Below.drew ?_) | (with_reducible refine Below.alloc ?_ ?_ _) | (with_reducible refine Below.setCell ?_ ?_ _) | (with_reducible refine Below.trans ?_ (HB1.out.mono ?_)) | (first | omega | (simp; omega) | (simp; done))))⟩
      · have HN := Lib.hid (show enterS ⟨false, i, r, l⟩ true = ⟨true, i + 1, 1, l⟩ by unfold enterS; rw [if_pos ⟨hm, fun h => hr h.1⟩]; rfl)
        clear hr hm
        go_enter Try.func34, Try.ntmps34
        go_wp2_with fail
        refine (may_spec ⟨false, i, r, l⟩ true false _).mono ?_
        rintro e w1 ⟨rfl, hb1⟩
        rw [HM.out]
        have HX := Lib.hid (HXY.out.1.below hb1)
        have HY := Lib.hid (HXY.out.2.below hb1)
        have HB1 := Lib.hid (HB0.out.trans (hb1.mono (by simp; omega)))
        have q1 := HX.out.lt
        have q2 := HY.out.lt
        obtain ⟨x0, x1, x2, x3⟩ := HX.out.at
        obtain ⟨y0, y1, y2, y3⟩ := HY.out.at
        obtain ⟨f0, f1, f2, f3⟩ := HX.out.free
        obtain ⟨g0, g1, g2, g3⟩ := HY.out.free
        clear hb1 HXY
        go_wp2
        refine bodyPost_ret (v := .agg #[.bool true, .int .i64 (i + 1), .int .i64 1, .int .i64 l]) (by simp [results, Try.results34, go_sem, x0, x1, x2, x3, y0, y1, y2, y3]) rfl ?_
        exact ⟨by rw [HN.out], by (repeat' (first | (with_reducible exact Below.refl _ _) | (with_reducible refine Below.drew ?_) | (with_reducible refine Below.alloc ?_ ?_ _) | (with_reducible refine Below.setCell ?_ ?_ _) | (with_reducible refine Below.trans ?_ (HB1.out.mono ?_)) | (first | omega | (simp; omega) | (simp; done))))⟩
      · have HN := Lib.hid (show enterS ⟨true, i, r, l⟩ false = ⟨false, i + 1, 1, l⟩ by unfold enterS; rw [if_pos ⟨hm, fun h => hr h.1⟩]; rfl)
        clear hr hm
        go_enter Try.func34, Try.ntmps34
        go_wp2_with fail
        refine (may_spec ⟨true, i, r, l⟩ false false _).mono ?_
        rintro e w1 ⟨rfl, hb1⟩
        rw [HM.out]
        have HX := Lib.hid (HXY.out.1.below hb1)
        have HY := Lib.hid (HXY.out.2.below hb1)
        have HB1 := Lib.hid (HB0.out.trans (hb1.mono (by simp; omega)))
        have q1 := HX.out.lt
        have q2 := HY.out.lt
        obtain ⟨x0, x1, x2, x3⟩ := HX.out.at
        obtain ⟨y0, y1, y2, y3⟩ := HY.out.at
        obtain ⟨f0, f1, f2, f3⟩ := HX.out.free
        obtain ⟨g0, g1, g2, g3⟩ := HY.out.free
        clear hb1 HXY
        go_wp2
        refine bodyPost_ret (v := .agg #[.bool false, .int .i64 (i + 1), .int .i64 1, .int .i64 l]) (by simp [results, Try.results34, go_sem, x0, x1, x2, x3, y0, y1, y2, y3]) rfl ?_
        exact ⟨by rw [HN.out], by (repeat' (first | (with_reducible exact Below.refl _ _) | (with_reducible refine Below.drew ?_) | (with_reducible refine Below.alloc ?_ ?_ _) | (with_reducible refine Below.setCell ?_ ?_ _) | (with_reducible refine Below.trans ?_ (HB1.out.mono ?_)) | (first | omega | (simp; omega) | (simp; done))))⟩
      · have HN := Lib.hid (show enterS ⟨true, i, r, l⟩ true = ⟨true, i + 1, (r + 1), l⟩ by unfold enterS; rw [if_pos ⟨hm, fun h => hr h.1⟩]; rfl)
        clear hr hm
        go_enter Try.func34, Try.ntmps34
        go_wp2_with fail
        refine (may_spec ⟨true, i, r, l⟩ true false _).mono ?_
        rintro e w1 ⟨rfl, hb1⟩
        rw [HM.out]
        have HX := Lib.hid (HXY.out.1.below hb1)
        have HY := Lib.hid (HXY.out.2.below hb1)
        have HB1 := Lib.hid (HB0.out.trans (hb1.mono (by simp; omega)))
        have q1 := HX.out.lt
        have q2 := HY.out.lt
        obtain ⟨x0, x1, x2, x3⟩ := HX.out.at
        obtain ⟨y0, y1, y2, y3⟩ := HY.out.at
        obtain ⟨f0, f1, f2, f3⟩ := HX.out.free
        obtain ⟨g0, g1, g2, g3⟩ := HY.out.free
        clear hb1 HXY
        go_wp2
        refine bodyPost_ret (v := .agg #[.bool true, .int .i64 (i + 1), .int .i64 (r + 1), .int .i64 l]) (by simp [results, Try.results34, go_sem, x0, x1, x2, x3, y0, y1, y2, y3]) rfl ?_
        exact ⟨by rw [HN.out], by (repeat' (first | (with_reducible exact Below.refl _ _) | (with_reducible refine Below.drew ?_) | (with_reducible refine Below.alloc ?_ ?_ _) | (with_reducible refine Below.setCell ?_ ?_ _) | (with_reducible refine Below.trans ?_ (HB1.out.mono ?_)) | (first | omega | (simp; omega) | (simp; done))))⟩

set_option maxHeartbeats 2000000 in
theorem enter_impl (S : Sr) (up : Bool) (w : World) : Calls Try.prog 18 #[.agg #[.bool S.u, .int .i64 S.i, .int .i64 S.r, .int .i64 S.l], .bool up] w (GivesSr w (enterS S up)) := by
  obtain ⟨u, i, r, l⟩ := S
  have hx : Box4 ((w.alloc (.cells #[.bool u, .int .i64 i, .int .i64 r, .int .i64 l] 26)).alloc (.cells #[.bool false, .int .i64 0, .int .i64 0, .int .i64 0] 26)) w.heap.size (.bool u) (.int .i64 i) (.int .i64 r) (.int .i64 l) 26 := (Box4.new w (.bool u) (.int .i64 i) (.int .i64 r) (.int .i64 l) 26).alloc _
  have hy : Box4 ((w.alloc (.cells #[.bool u, .int .i64 i, .int .i64 r, .int .i64 l] 26)).alloc (.cells #[.bool false, .int .i64 0, .int .i64 0, .int .i64 0] 26)) (w.heap.size + 1) (.bool false) (.int .i64 0) (.int .i64 0) (.int .i64 0) 26 := by
    have := Box4.new (w.alloc (.cells #[.bool u, .int .i64 i, .int .i64 r, .int .i64 l] 26)) (.bool false) (.int .i64 0) (.int .i64 0) (.int .i64 0) 26
    simpa using this
  have HXY := Lib.hid (And.intro hx hy)
  have HB0 := Lib.hid (((Below.refl w.heap.size w).alloc (Nat.le_refl _) (.cells #[.bool u, .int .i64 i, .int .i64 r, .int .i64 l] 26)).alloc (by simp) (.cells #[.bool false, .int .i64 0, .int .i64 0, .int .i64 0] 26))
  clear hx hy
  show Calls Try.prog 18 #[.agg #[.bool u, .int .i64 i, .int .i64 r, .int .i64 l], .bool up] w _
  cases hm : mayP ⟨u, i, r, l⟩ up false with
  | false =>
    have HN := Lib.hid (show enterS ⟨u, i, r, l⟩ up = ⟨u, i, r, l⟩ by unfold enterS; rw [if_neg (by rw [hm]; simp)])
    have HM := Lib.hid hm
    clear hm
    go_enter Try.func18, Try.ntmps18
    go_wp2_with fail
    refine (may_impl ⟨u, i, r, l⟩ up false _).mono ?_
    rintro e w1 ⟨rfl, hb1⟩
    rw [HM.out]
    have HX := Lib.hid (HXY.out.1.below hb1)
    have HY := Lib.hid (HXY.out.2.below hb1)
    have HB1 := Lib.hid (HB0.out.trans (hb1.mono (by simp; omega)))
    have q1 := HX.out.lt
    have q2 := HY.out.lt
    obtain ⟨x0, x1, x2, x3⟩ := HX.out.at
    obtain ⟨y0, y1, y2, y3⟩ := HY.out.at
    obtain ⟨f0, f1, f2, f3⟩ := HX.out.free
    obtain ⟨g0, g1, g2, g3⟩ := HY.out.free
    clear hb1 HXY
    go_wp2
    refine bodyPost_ret (v := .agg #[.bool u, .int .i64 i, .int .i64 r, .int .i64 l]) (by simp [results, Try.results18, go_sem, x0, x1, x2, x3, y0, y1, y2, y3]) rfl ?_
    exact ⟨by rw [HN.out], by (repeat' (first | (with_reducible exact Below.refl _ _) | (with_reducible refine Below.drew ?_) | (with_reducible refine Below.alloc ?_ ?_ _) | (with_reducible refine Below.setCell ?_ ?_ _) | (with_reducible refine Below.trans ?_ (HB1.out.mono ?_)) | (first | omega | (simp; omega) | (simp; done))))⟩
  | true =>
    have HM := Lib.hid hm
    have hok : srOk ⟨u, i, r, l⟩ = true := by
      unfold mayP at hm
      rw [Bool.and_eq_true] at hm
      exact hm.1
    obtain ⟨⟨i0, i1⟩, ⟨r0, r1⟩, _, _⟩ := srOk_iff.1 hok
    simp only at i0 i1 r0 r1
    clear hok
    by_cases hr : r = 1000000
    · have hr' : (r == 1000000) = true := by simp [hr]
      cases u <;> cases up
      · have HN := Lib.hid (show enterS ⟨false, i, r, l⟩ false = ⟨false, i, r, l⟩ by unfold enterS; rw [if_neg (fun h => h.2 ⟨hr, rfl⟩)])
        clear hr hm
        go_enter Try.func18, Try.ntmps18
        go_wp2_with fail
        refine (may_impl ⟨false, i, r, l⟩ false false _).mono ?_
        rintro e w1 ⟨rfl, hb1⟩
        rw [HM.out]
        have HX := Lib.hid (HXY.out.1.below hb1)
        have HY := Lib.hid (HXY.out.2.below hb1)
        have HB1 := Lib.hid (HB0.out.trans (hb1.mono (by simp; omega)))
        have q1 := HX.out.lt
        have q2 := HY.out.lt
        obtain ⟨x0, x1, x2, x3⟩ := HX.out.at
        obtain ⟨y0, y1, y2, y3⟩ := HY.out.at
        obtain ⟨f0, f1, f2, f3⟩ := HX.out.free
        obtain ⟨g0, g1, g2, g3⟩ := HY.out.free
        clear hb1 HXY
        go_wp2
        refine bodyPost_ret (v := .agg #[.bool false, .int .i64 i, .int .i64 r, .int .i64 l]) (by simp [results, Try.results18, go_sem, x0, x1, x2, x3, y0, y1, y2, y3]) rfl ?_
        exact ⟨by rw [HN.out], by (repeat' (first | (with_reducible exact Below.refl _ _) | (with_reducible refine Below.drew ?_) | (with_reducible refine Below.alloc ?_ ?_ _) | (with_reducible refine Below.setCell ?_ ?_ _) | (with_reducible refine Below.trans ?_ (HB1.out.mono ?_)) | (first | omega | (simp; omega) | (simp; done))))⟩
      · have HN := Lib.hid (show enterS ⟨false, i, r, l⟩ true = ⟨true, i + 1, 1, l⟩ by unfold enterS; rw [if_pos ⟨hm, fun h => by cases h.2⟩]; rfl)
        clear hr hm
        go_enter Try.func18, Try.ntmps18
        go_wp2_with fail
        refine (may_impl ⟨false, i, r, l⟩ true false _).mono ?_
        rintro e w1 ⟨rfl, hb1⟩
        rw [HM.out]
        have HX := Lib.hid (HXY.out.1.below hb1)
        have HY := Lib.hid (HXY.out.2.below hb1)
        have HB1 := Lib.hid (HB0.out.trans (hb1.mono (by simp; omega)))
        have q1 := HX.out.lt
        have q2 := HY.out.lt
        obtain ⟨x0, x1, x2, x3⟩ := HX.out.at
        obtain ⟨y0, y1, y2, y3⟩ := HY.out.at
        obtain ⟨f0, f1, f2, f3⟩ := HX.out.free
        obtain ⟨g0, g1, g2, g3⟩ := HY.out.free
        clear hb1 HXY
        have zz := ((((HX.out.set0 (.bool true)).set2 (.int .i64 0)).set1 (.int .i64 (i + 1))).set2 (.int .i64 1)).at.2.2.1
        go_wp2
        refine bodyPost_ret (v := .agg #[.bool true, .int .i64 (i + 1), .int .i64 1, .int .i64 l]) (by simp [results, Try.results18, go_sem, x0, x1, x2, x3, y0, y1, y2, y3]) rfl ?_
        exact ⟨by rw [HN.out], by (repeat' (first | (with_reducible exact Below.refl _ _) | (with_reducible refine Below.drew ?_) | (with_reducible refine Below.alloc ?_ ?_ _) | (with_reducible refine Below.setCell ?_ ?_ _) | (with_reducible refine Below.trans ?_ (HB1.out.mono ?_)) | (first | omega | (simp; omega) | (simp; done))))⟩
      · have HN := Lib.hid (show enterS ⟨true, i, r, l⟩ false = ⟨false, i + 1, 1, l⟩ by unfold enterS; rw [if_pos ⟨hm, fun h => by cases h.2⟩]; rfl)
        clear hr hm
        go_enter Try.func18, Try.ntmps18
        go_wp2_with fail
        refine (may_impl ⟨true, i, r, l⟩ false false _).mono ?_
        rintro e w1 ⟨rfl, hb1⟩
        rw [HM.out]
        have HX := Lib.hid (HXY.out.1.below hb1)
        have HY := Lib.hid (HXY.out.2.below hb1)
        have HB1 := Lib.hid (HB0.out.trans (hb1.mono (by simp; omega)))
        have q1 := HX.out.lt
        have q2 := HY.out.lt
        obtain ⟨x0, x1, x2, x3⟩ := HX.out.at
        obtain ⟨y0, y1, y2, y3⟩ := HY.out.at
        obtain ⟨f0, f1, f2, f3⟩ := HX.out.free
        obtain ⟨g0, g1, g2, g3⟩ := HY.out.free
        clear hb1 HXY
        have zz := ((((HX.out.set0 (.bool false)).set2 (.int .i64 0)).set1 (.int .i64 (i + 1))).set2 (.int .i64 1)).at.2.2.1
        go_wp2
        refine bodyPost_ret (v := .agg #[.bool false, .int .i64 (i + 1), .int .i64 1, .int .i64 l]) (by simp [results, Try.results18, go_sem, x0, x1, x2, x3, y0, y1, y2, y3]) rfl ?_
        exact ⟨by rw [HN.out], by (repeat' (first | (with_reducible exact Below.refl _ _) | (with_reducible refine Below.drew ?_) | (with_reducible refine Below.alloc ?_ ?_ _) | (with_reducible refine Below.setCell ?_ ?_ _) | (with_reducible refine Below.trans ?_ (HB1.out.mono ?_)) | (first | omega | (simp; omega) | (simp; done))))⟩
      · have HN := Lib.hid (show enterS ⟨true, i, r, l⟩ true = ⟨true, i, r, l⟩ by unfold enterS; rw [if_neg (fun h => h.2 ⟨hr, rfl⟩)])
        clear hr hm
        go_enter Try.func18, Try.ntmps18
        go_wp2_with fail
        refine (may_impl ⟨true, i, r, l⟩ true false _).mono ?_
        rintro e w1 ⟨rfl, hb1⟩
        rw [HM.out]
        have HX := Lib.hid (HXY.out.1.below hb1)
        have HY := Lib.hid (HXY.out.2.below hb1)
        have HB1 := Lib.hid (HB0.out.trans (hb1.mono (by simp; omega)))
        have q1 := HX.out.lt
        have q2 := HY.out.lt
        obtain ⟨x0, x1, x2, x3⟩ := HX.out.at
        obtain ⟨y0, y1, y2, y3⟩ := HY.out.at
        obtain ⟨f0, f1, f2, f3⟩ := HX.out.free
        obtain ⟨g0, g1, g2, g3⟩ := HY.out.free
        clear hb1 HXY
        go_wp2
        refine bodyPost_ret (v := .agg #[.bool true, .int .i64 i, .int .i64 r, .int .i64 l]) (by simp [results, Try.results18, go_sem, x0, x1, x2, x3, y0, y1, y2, y3]) rfl ?_
        exact ⟨by rw [HN.out], by (repeat' (first | (with_reducible exact Below.refl _ _) | (with_reducible refine Below.drew ?_) | (with_reducible refine Below.alloc ?_ ?_ _) | (with_reducible refine Below.setCell ?_ ?_ _) | (with_reducible refine Below.trans ?_ (HB1.out.mono ?_)) | (first | omega | (simp; omega) | (simp; done))))⟩
    · have hr' : (r == 1000000) = false := by simp [hr]
      cases u <;> cases up
      · have HN := Lib.hid (show enterS ⟨false, i, r, l⟩ false = ⟨false, i + 1, (r + 1), l⟩ by unfold enterS; rw [if_pos ⟨hm, fun h => hr h.1⟩]; rfl)
        clear hr hm
        go_enter Try.func18, Try.ntmps18
        go_wp2_with fail
        refine (may_impl ⟨false, i, r, l⟩ false false _).mono ?_
        rintro e w1 ⟨rfl, hb1⟩
        rw [HM.out]
        have HX := Lib.hid (HXY.out.1.below hb1)
        have HY := Lib.hid (HXY.out.2.below hb1)
        have HB1 := Lib.hid (HB0.out.trans (hb1.mono (by simp; omega)))
        have q1 := HX.out.lt
        have q2 := HY.out.lt
        obtain ⟨x0, x1, x2, x3⟩ := HX.out.at
        obtain ⟨y0, y1, y2, y3⟩ := HY.out.at
        obtain ⟨f0, f1, f2, f3⟩ := HX.out.free
        obtain ⟨g0, g1, g2, g3⟩ := HY.out.free
        clear hb1 HXY
        go_wp2
        refine bodyPost_ret (v := .agg #[.bool false, .int .i64 (i + 1), .int .i64 (r + 1), .int .i64 l]) (by simp [results, Try.results18, go_sem, x0, x1, x2, x3, y0, y1, y2, y3]) rfl ?_
        exact ⟨by rw [HN.out], by (repeat' (first | (with_reducible exact Below.refl _ _) | (with_reducible refine Below.drew ?_) | (with_reducible refine Below.alloc ?_ ?_ _) | (with_reducible refine Below.setCell ?_ ?_ _) | (with_reducible refine Below.trans ?_ (HB1.out.mono ?_)) | (first | omega | (simp; omega) | (simp; done))))⟩
      · have HN := Lib.hid (show enterS ⟨false, i, r, l⟩ true = ⟨true, i + 1, 1, l⟩ by unfold enterS; rw [if_pos ⟨hm, fun h => hr h.1⟩]; rfl)
        clear hr hm
        go_enter Try.func18, Try.ntmps18
        go_wp2_with fail
        refine (may_impl ⟨false, i, r, l⟩ true false _).mono ?_
        rintro e w1 ⟨rfl, hb1⟩
        rw [HM.out]
        have HX := Lib.hid (HXY.out.1.below hb1)
        have HY := Lib.hid (HXY.out.2.below hb1)
        have HB1 := Lib.hid (HB0.out.trans (hb1.mono (by simp; omega)))
        have q1 := HX.out.lt
        have q2 := HY.out.lt
        obtain ⟨x0, x1, x2, x3⟩ := HX.out.at
        obtain ⟨y0, y1, y2, y3⟩ := HY.out.at
        obtain ⟨f0, f1, f2, f3⟩ := HX.out.free
        obtain ⟨g0, g1, g2, g3⟩ := HY.out.free
        clear hb1 HXY
        have zz := ((((HX.out.set0 (.bool true)).set2 (.int .i64 0)).set1 (.int .i64 (i + 1))).set2 (.int .i64 1)).at.2.2.1
        go_wp2
        refine bodyPost_ret (v := .agg #[.bool true, .int .i64 (i + 1), .int .i64 1, .int .i64 l]) (by simp [results, Try.results18, go_sem, x0, x1, x2, x3, y0, y1, y2, y3]) rfl ?_
        exact ⟨by rw [HN.out], by (repeat' (first | (with_reducible exact Below.refl _ _) | (with_reducible refine Below.drew ?_) | (with_reducible refine Below.alloc ?_ ?_ _) | (with_reducible refine Below.setCell ?_ ?_ _) | (with_reducible refine Below.trans ?_ (HB1.out.mono ?_)) | (first | omega | (simp; omega) | (simp; done))))⟩
      · have HN := Lib.hid (show enterS ⟨true, i, r, l⟩ false = ⟨false, i + 1, 1, l⟩ by unfold enterS; rw [if_pos ⟨hm, fun h => hr h.1⟩]; rfl)
        clear hr hm
        go_enter Try.func18, Try.ntmps18
        go_wp2_with fail
        refine (may_impl ⟨true, i, r, l⟩ false false _).mono ?_
        rintro e w1 ⟨rfl, hb1⟩
        rw [HM.out]
        have HX := Lib.hid (HXY.out.1.below hb1)
        have HY := Lib.hid (HXY.out.2.below hb1)
        have HB1 := Lib.hid (HB0.out.trans (hb1.mono (by simp; omega)))
        have q1 := HX.out.lt
        have q2 := HY.out.lt
        obtain ⟨x0, x1, x2, x3⟩ := HX.out.at
        obtain ⟨y0, y1, y2, y3⟩ := HY.out.at
        obtain ⟨f0, f1, f2, f3⟩ := HX.out.free
        obtain ⟨g0, g1, g2, g3⟩ := HY.out.free
        clear hb1 HXY
        have zz := ((((HX.out.set0 (.bool false)).set2 (.int .i64 0)).set1 (.int .i64 (i + 1))).set2 (.int .i64 1)).at.2.2.1
        go_wp2
        refine bodyPost_ret (v := .agg #[.bool false, .int .i64 (i + 1), .int .i64 1, .int .i64 l]) (by simp [results, Try.results18, go_sem, x0, x1, x2, x3, y0, y1, y2, y3]) rfl ?_
        exact ⟨by rw [HN.out], by (repeat' (first | (with_reducible exact Below.refl _ _) | (with_reducible refine Below.drew ?_) | (with_reducible refine Below.alloc ?_ ?_ _) | (with_reducible refine Below.setCell ?_ ?_ _) | (with_reducible refine Below.trans ?_ (HB1.out.mono ?_)) | (first | omega | (simp; omega) | (simp; done))))⟩
      · have HN := Lib.hid (show enterS ⟨true, i, r, l⟩ true = ⟨true, i + 1, (r + 1), l⟩ by unfold enterS; rw [if_pos ⟨hm, fun h => hr h.1⟩]; rfl)
        clear hr hm
        go_enter Try.func18, Try.ntmps18
        go_wp2_with fail
        refine (may_impl ⟨true, i, r, l⟩ true false _).mono ?_
        rintro e w1 ⟨rfl, hb1⟩
        rw [HM.out]
        have HX := Lib.hid (HXY.out.1.below hb1)
        have HY := Lib.hid (HXY.out.2.below hb1)
        have HB1 := Lib.hid (HB0.out.trans (hb1.mono (by simp; omega)))
        have q1 := HX.out.lt
        have q2 := HY.out.lt
        obtain ⟨x0, x1, x2, x3⟩ := HX.out.at
        obtain ⟨y0, y1, y2, y3⟩ := HY.out.at
        obtain ⟨f0, f1, f2, f3⟩ := HX.out.free
        obtain ⟨g0, g1, g2, g3⟩ := HY.out.free
        clear hb1 HXY
        go_wp2
        refine bodyPost_ret (v := .agg #[.bool true, .int .i64 (i + 1), .int .i64 (r + 1), .int .i64 l]) (by simp [results, Try.results18, go_sem, x0, x1, x2, x3, y0, y1, y2, y3]) rfl ?_
        exact ⟨by rw [HN.out], by (repeat' (first | (with_reducible exact Below.refl _ _) | (with_reducible refine Below.drew ?_) | (with_reducible refine Below.alloc ?_ ?_ _) | (with_reducible refine Below.setCell ?_ ?_ _) | (with_reducible refine Below.trans ?_ (HB1.out.mono ?_)) | (first | omega | (simp; omega) | (simp; done))))⟩

end Go.Proofs.Ytaacgajpjkfplaa.C1
