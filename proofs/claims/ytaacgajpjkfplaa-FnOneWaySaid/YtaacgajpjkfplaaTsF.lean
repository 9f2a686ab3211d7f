/- Turns and stretches: NoteTurn, MayPass, EnterStretch, LeaveStretch, of the program and of its model. -/
import Derived.Test.YtaacgajpjkfplaaTs
namespace Go.Proofs.Ytaacgajpjkfplaa.C1
open Go.ChangeShapes Go.WideShapes Go.ChangeAt Go.RowKit
set_option linter.unusedVariables false
set_option linter.unusedSimpArgs false

set_option maxHeartbeats 2000000 in
theorem note_spec (T : Tn) (up : Bool) (w : World) : Calls Try.prog 28 #[.agg #[.bool T.u, .int .i64 T.c], .bool up] w (GivesTn w (noteT T up)) := by
  obtain ⟨u, c⟩ := T
  have hx : Box2 ((w.alloc (.cells #[.bool u, .int .i64 c] 40)).alloc (.cells #[.bool false, .int .i64 0] 40)) w.heap.size (.bool u) (.int .i64 c) 40 := (Box2.new w (.bool u) (.int .i64 c) 40).alloc _
  have hy : Box2 ((w.alloc (.cells #[.bool u, .int .i64 c] 40)).alloc (.cells #[.bool false, .int .i64 0] 40)) (w.heap.size + 1) (.bool false) (.int .i64 0) 40 := by
    have := Box2.new (w.alloc (.cells #[.bool u, .int .i64 c] 40)) (.bool false) (.int .i64 0) 40
    simpa using this
  have HXY := Lib.hid (And.intro hx hy)
  have HB0 := Lib.hid (((Below.refl w.heap.size w).alloc (Nat.le_refl _) (.cells #[.bool u, .int .i64 c] 40)).alloc (by simp) (.cells #[.bool false, .int .i64 0] 40))
  clear hx hy
  show Calls Try.prog 28 #[.agg #[.bool u, .int .i64 c], .bool up] w _
  cases hok : tnOk ⟨u, c⟩ with
  | false =>
    have HN := Lib.hid (show noteT ⟨u, c⟩ up = ⟨u, c⟩ by unfold noteT; rw [hok]; rfl)
    have HM := Lib.hid hok
    clear hok
    go_enter Try.func28, Try.ntmps28
    go_wp2_with fail
    refine (tnok_spec ⟨u, c⟩ _).mono ?_
    rintro e w1 ⟨rfl, hb1⟩
    rw [HM.out]
    have HX := Lib.hid (HXY.out.1.below hb1)
    have HY := Lib.hid (HXY.out.2.below hb1)
    have HB1 := Lib.hid (HB0.out.trans (hb1.mono (by simp; omega)))
    have q1 := HX.out.lt
    have q2 := HY.out.lt
    obtain ⟨x0, x1⟩ := HX.out.at
    obtain ⟨y0, y1⟩ := HY.out.at
    obtain ⟨f0, f1⟩ := HX.out.free
    obtain ⟨g0, g1⟩ := HY.out.free
    clear hb1 HXY
    go_wp2
    refine bodyPost_ret (v := .agg #[.bool u, .int .i64 c]) (by simp [results, Try.results28, go_sem, x0, x1, y0, y1]) rfl ?_
    exact ⟨by rw [HN.out], by (repeat' (first | (with_reducible exact Below.refl _ _) | (with_reducible refine Below.drew ?_) | (with_reducible refine Below.alloc ?_ ?_ _) | (with_reducible refine Below.setCell ?_ ?_ _) | (with_reducible refine Below.trans ?_ (HB1.out.mono ?_)) | (first | omega | (simp; omega) | (simp; done))))⟩
  | true =>
    have HM := Lib.hid hok
    have c0 := (inB_iff.1 (show inB c 0 1000000 = true from hok)).1
    have c1 := (inB_iff.1 (show inB c 0 1000000 = true from hok)).2
    clear hok
    cases u <;> cases up
    · by_cases hc : c < 1000000
      · have HN := Lib.hid (show noteT ⟨false, c⟩ false = ⟨false, c + 1⟩ by unfold noteT; rw [HM.out, if_pos rfl, if_pos rfl]; show (⟨_, min (c + 1) 1000000⟩ : Tn) = _; rw [Int.min_eq_left (by omega)])
        go_enter Try.func28, Try.ntmps28
        go_wp2_with fail
        refine (tnok_spec ⟨false, c⟩ _).mono ?_
        rintro e w1 ⟨rfl, hb1⟩
        rw [HM.out]
        have HX := Lib.hid (HXY.out.1.below hb1)
        have HY := Lib.hid (HXY.out.2.below hb1)
        have HB1 := Lib.hid (HB0.out.trans (hb1.mono (by simp; omega)))
        have q1 := HX.out.lt
        have q2 := HY.out.lt
        obtain ⟨x0, x1⟩ := HX.out.at
        obtain ⟨y0, y1⟩ := HY.out.at
        obtain ⟨f0, f1⟩ := HX.out.free
        obtain ⟨g0, g1⟩ := HY.out.free
        clear hb1 HXY
        go_wp2
        refine bodyPost_ret (v := .agg #[.bool false, .int .i64 (c + 1)]) (by simp [results, Try.results28, go_sem, x0, x1, y0, y1]) rfl ?_
        exact ⟨by rw [HN.out], by (repeat' (first | (with_reducible exact Below.refl _ _) | (with_reducible refine Below.drew ?_) | (with_reducible refine Below.alloc ?_ ?_ _) | (with_reducible refine Below.setCell ?_ ?_ _) | (with_reducible refine Below.trans ?_ (HB1.out.mono ?_)) | (first | omega | (simp; omega) | (simp; done))))⟩
      · have HN := Lib.hid (show noteT ⟨false, c⟩ false = ⟨false, 1000000⟩ by unfold noteT; rw [HM.out, if_pos rfl, if_pos rfl]; show (⟨_, min (c + 1) 1000000⟩ : Tn) = _; rw [Int.min_eq_right (by omega)])
        have hc' := Int.not_lt.1 hc
        clear hc
        go_enter Try.func28, Try.ntmps28
        go_wp2_with fail
        refine (tnok_spec ⟨false, c⟩ _).mono ?_
        rintro e w1 ⟨rfl, hb1⟩
        rw [HM.out]
        have HX := Lib.hid (HXY.out.1.below hb1)
        have HY := Lib.hid (HXY.out.2.below hb1)
        have HB1 := Lib.hid (HB0.out.trans (hb1.mono (by simp; omega)))
        have q1 := HX.out.lt
        have q2 := HY.out.lt
        obtain ⟨x0, x1⟩ := HX.out.at
        obtain ⟨y0, y1⟩ := HY.out.at
        obtain ⟨f0, f1⟩ := HX.out.free
        obtain ⟨g0, g1⟩ := HY.out.free
        clear hb1 HXY
        go_wp2
        refine bodyPost_ret (v := .agg #[.bool false, .int .i64 1000000]) (by simp [results, Try.results28, go_sem, x0, x1, y0, y1]) rfl ?_
        exact ⟨by rw [HN.out], by (repeat' (first | (with_reducible exact Below.refl _ _) | (with_reducible refine Below.drew ?_) | (with_reducible refine Below.alloc ?_ ?_ _) | (with_reducible refine Below.setCell ?_ ?_ _) | (with_reducible refine Below.trans ?_ (HB1.out.mono ?_)) | (first | omega | (simp; omega) | (simp; done))))⟩
    · have HN := Lib.hid (show noteT ⟨false, c⟩ true = ⟨true, 1⟩ by unfold noteT; rw [HM.out]; rfl)
      go_enter Try.func28, Try.ntmps28
      go_wp2_with fail
      refine (tnok_spec ⟨false, c⟩ _).mono ?_
      rintro e w1 ⟨rfl, hb1⟩
      rw [HM.out]
      have HX := Lib.hid (HXY.out.1.below hb1)
      have HY := Lib.hid (HXY.out.2.below hb1)
      have HB1 := Lib.hid (HB0.out.trans (hb1.mono (by simp; omega)))
      have q1 := HX.out.lt
      have q2 := HY.out.lt
      obtain ⟨x0, x1⟩ := HX.out.at
      obtain ⟨y0, y1⟩ := HY.out.at
      obtain ⟨f0, f1⟩ := HX.out.free
      obtain ⟨g0, g1⟩ := HY.out.free
      clear hb1 HXY
      go_wp2
      refine bodyPost_ret (v := .agg #[.bool true, .int .i64 1]) (by simp [results, Try.results28, go_sem, x0, x1, y0, y1]) rfl ?_
      exact ⟨by rw [HN.out], by (repeat' (first | (with_reducible exact Below.refl _ _) | (with_reducible refine Below.drew ?_) | (with_reducible refine Below.alloc ?_ ?_ _) | (with_reducible refine Below.setCell ?_ ?_ _) | (with_reducible refine Below.trans ?_ (HB1.out.mono ?_)) | (first | omega | (simp; omega) | (simp; done))))⟩
    · have HN := Lib.hid (show noteT ⟨true, c⟩ false = ⟨false, 1⟩ by unfold noteT; rw [HM.out]; rfl)
      go_enter Try.func28, Try.ntmps28
      go_wp2_with fail
      refine (tnok_spec ⟨true, c⟩ _).mono ?_
      rintro e w1 ⟨rfl, hb1⟩
      rw [HM.out]
      have HX := Lib.hid (HXY.out.1.below hb1)
      have HY := Lib.hid (HXY.out.2.below hb1)
      have HB1 := Lib.hid (HB0.out.trans (hb1.mono (by simp; omega)))
      have q1 := HX.out.lt
      have q2 := HY.out.lt
      obtain ⟨x0, x1⟩ := HX.out.at
      obtain ⟨y0, y1⟩ := HY.out.at
      obtain ⟨f0, f1⟩ := HX.out.free
      obtain ⟨g0, g1⟩ := HY.out.free
      clear hb1 HXY
      go_wp2
      refine bodyPost_ret (v := .agg #[.bool false, .int .i64 1]) (by simp [results, Try.results28, go_sem, x0, x1, y0, y1]) rfl ?_
      exact ⟨by rw [HN.out], by (repeat' (first | (with_reducible exact Below.refl _ _) | (with_reducible refine Below.drew ?_) | (with_reducible refine Below.alloc ?_ ?_ _) | (with_reducible refine Below.setCell ?_ ?_ _) | (with_reducible refine Below.trans ?_ (HB1.out.mono ?_)) | (first | omega | (simp; omega) | (simp; done))))⟩
    · by_cases hc : c < 1000000
      · have HN := Lib.hid (show noteT ⟨true, c⟩ true = ⟨true, c + 1⟩ by unfold noteT; rw [HM.out, if_pos rfl, if_pos rfl]; show (⟨_, min (c + 1) 1000000⟩ : Tn) = _; rw [Int.min_eq_left (by omega)])
        go_enter Try.func28, Try.ntmps28
        go_wp2_with fail
        refine (tnok_spec ⟨true, c⟩ _).mono ?_
        rintro e w1 ⟨rfl, hb1⟩
        rw [HM.out]
        have HX := Lib.hid (HXY.out.1.below hb1)
        have HY := Lib.hid (HXY.out.2.below hb1)
        have HB1 := Lib.hid (HB0.out.trans (hb1.mono (by simp; omega)))
        have q1 := HX.out.lt
        have q2 := HY.out.lt
        obtain ⟨x0, x1⟩ := HX.out.at
        obtain ⟨y0, y1⟩ := HY.out.at
        obtain ⟨f0, f1⟩ := HX.out.free
        obtain ⟨g0, g1⟩ := HY.out.free
        clear hb1 HXY
        go_wp2
        refine bodyPost_ret (v := .agg #[.bool true, .int .i64 (c + 1)]) (by simp [results, Try.results28, go_sem, x0, x1, y0, y1]) rfl ?_
        exact ⟨by rw [HN.out], by (repeat' (first | (with_reducible exact Below.refl _ _) | (with_reducible refine Below.drew ?_) | (with_reducible refine Below.alloc ?_ ?_ _) | (with_reducible refine Below.setCell ?_ ?_ _) | (with_reducible refine Below.trans ?_ (HB1.out.mono ?_)) | (first | omega | (simp; omega) | (simp; done))))⟩
      · have HN := Lib.hid (show noteT ⟨true, c⟩ true = ⟨true, 1000000⟩ by unfold noteT; rw [HM.out, if_pos rfl, if_pos rfl]; show (⟨_, min (c + 1) 1000000⟩ : Tn) = _; rw [Int.min_eq_right (by omega)])
        have hc' := Int.not_lt.1 hc
        clear hc
        go_enter Try.func28, Try.ntmps28
        go_wp2_with fail
        refine (tnok_spec ⟨true, c⟩ _).mono ?_
        rintro e w1 ⟨rfl, hb1⟩
        rw [HM.out]
        have HX := Lib.hid (HXY.out.1.below hb1)
        have HY := Lib.hid (HXY.out.2.below hb1)
        have HB1 := Lib.hid (HB0.out.trans (hb1.mono (by simp; omega)))
        have q1 := HX.out.lt
        have q2 := HY.out.lt
        obtain ⟨x0, x1⟩ := HX.out.at
        obtain ⟨y0, y1⟩ := HY.out.at
        obtain ⟨f0, f1⟩ := HX.out.free
        obtain ⟨g0, g1⟩ := HY.out.free
        clear hb1 HXY
        go_wp2
        refine bodyPost_ret (v := .agg #[.bool true, .int .i64 1000000]) (by simp [results, Try.results28, go_sem, x0, x1, y0, y1]) rfl ?_
        exact ⟨by rw [HN.out], by (repeat' (first | (with_reducible exact Below.refl _ _) | (with_reducible refine Below.drew ?_) | (with_reducible refine Below.alloc ?_ ?_ _) | (with_reducible refine Below.setCell ?_ ?_ _) | (with_reducible refine Below.trans ?_ (HB1.out.mono ?_)) | (first | omega | (simp; omega) | (simp; done))))⟩

set_option maxHeartbeats 2000000 in
theorem may_spec (S : Sr) (up o : Bool) (w : World) : Calls Try.prog 33 #[.agg #[.bool S.u, .int .i64 S.i, .int .i64 S.r, .int .i64 S.l], .bool up, .bool o] w (GivesB w (mayP S up o)) := by
  obtain ⟨u, i, r, l⟩ := S
  have HX0 := Lib.hid (Box4.new w (.bool u) (.int .i64 i) (.int .i64 r) (.int .i64 l) 26)
  have HB0 := Lib.hid ((Below.refl w.heap.size w).alloc (Nat.le_refl _) (.cells #[.bool u, .int .i64 i, .int .i64 r, .int .i64 l] 26))
  have HM := Lib.hid (show mayP ⟨u, i, r, l⟩ up o = (srOk ⟨u, i, r, l⟩ && (if up = u then decide (r < l) || !o else decide (i = 0))) from rfl)
  show Calls Try.prog 33 #[.agg #[.bool u, .int .i64 i, .int .i64 r, .int .i64 l], .bool up, .bool o] w _
  cases hok : srOk ⟨u, i, r, l⟩ with
  | false =>
    have HN := Lib.hid (HM.out.trans (by rw [hok, Bool.false_and]))
    have HK := Lib.hid hok
    clear hok HM
    go_enter Try.func33, Try.ntmps33
    go_wp2_with fail
    refine (srok_spec ⟨u, i, r, l⟩ _).mono ?_
    rintro e w1 ⟨rfl, hb1⟩
    rw [HK.out]
    have HB1 := Lib.hid (HB0.out.trans (hb1.mono HB0.out.size))
    clear hb1
    go_wp2
    go_ret
    exact ⟨ret_bool HN.out.symm, HB1.out⟩
  | true =>
    have HK := Lib.hid hok
    have HN := Lib.hid (HM.out.trans (by rw [hok, Bool.true_and]))
    clear hok HM
    by_cases h1 : r < l <;> by_cases h2 : i = 0 <;> cases u <;> cases up <;> cases o
    all_goals
      have HN' := Lib.hid (HN.out.trans (show _ = _ by simp [h1, h2]; rfl))
      first | have h1' := Int.not_lt.1 h1 | have h1' := h1
      first | subst h2 | have h2' : (i == 0) = false := by simp [h2]
      try clear h2
      clear h1 HN
      go_enter Try.func33, Try.ntmps33
      go_wp2_with fail
      refine (srok_spec ⟨_, _, r, l⟩ _).mono ?_
      rintro e w1 ⟨rfl, hb1⟩
      rw [HK.out]
      have HX := Lib.hid (HX0.out.below hb1)
      have HB1 := Lib.hid (HB0.out.trans (hb1.mono HB0.out.size))
      have q1 := HX.out.lt
      obtain ⟨x0, x1, x2, x3⟩ := HX.out.at
      clear hb1 HX0
      go_wp2
      go_ret
      refine ⟨ret_bool ?_, HB1.out⟩
      first | exact HN'.out.symm | (rw [HN'.out]; simp; omega)

set_option maxHeartbeats 2000000 in
theorem leave_spec (S : Sr) (w : World) : Calls Try.prog 36 #[.agg #[.bool S.u, .int .i64 S.i, .int .i64 S.r, .int .i64 S.l]] w (GivesSr w (leaveS S)) := by
  obtain ⟨u, i, r, l⟩ := S
  have hx : Box4 ((w.alloc (.cells #[.bool u, .int .i64 i, .int .i64 r, .int .i64 l] 26)).alloc (.cells #[.bool false, .int .i64 0, .int .i64 0, .int .i64 0] 26)) w.heap.size (.bool u) (.int .i64 i) (.int .i64 r) (.int .i64 l) 26 := (Box4.new w (.bool u) (.int .i64 i) (.int .i64 r) (.int .i64 l) 26).alloc _
  have hy : Box4 ((w.alloc (.cells #[.bool u, .int .i64 i, .int .i64 r, .int .i64 l] 26)).alloc (.cells #[.bool false, .int .i64 0, .int .i64 0, .int .i64 0] 26)) (w.heap.size + 1) (.bool false) (.int .i64 0) (.int .i64 0) (.int .i64 0) 26 := by
    have := Box4.new (w.alloc (.cells #[.bool u, .int .i64 i, .int .i64 r, .int .i64 l] 26)) (.bool false) (.int .i64 0) (.int .i64 0) (.int .i64 0) 26
    simpa using this
  have HXY := Lib.hid (And.intro hx hy)
  have HB0 := Lib.hid (((Below.refl w.heap.size w).alloc (Nat.le_refl _) (.cells #[.bool u, .int .i64 i, .int .i64 r, .int .i64 l] 26)).alloc (by simp) (.cells #[.bool false, .int .i64 0, .int .i64 0, .int .i64 0] 26))
  clear hx hy
  show Calls Try.prog 36 #[.agg #[.bool u, .int .i64 i, .int .i64 r, .int .i64 l]] w _
  cases hm : srOk ⟨u, i, r, l⟩ with
  | false =>
    have HN := Lib.hid (show leaveS ⟨u, i, r, l⟩ = ⟨u, i, r, l⟩ by unfold leaveS; rw [if_neg (by rw [hm]; simp)])
    have HM := Lib.hid hm
    clear hm
    go_enter Try.func36, Try.ntmps36
    go_wp2_with fail
    refine (srok_spec ⟨u, i, r, l⟩ _).mono ?_
    rintro e w1 ⟨rfl, hb1⟩
    rw [HM.out]
    have HX := Lib.hid (HXY.out.1.below hb1)
    have HY := Lib.hid (HXY.out.2.below hb1)
    have HB1 := Lib.hid (HB0.out.trans (hb1.mono (by simp; omega)))
    have q1 := HX.out.lt
    have q2 := HY.out.lt
    obtain ⟨x0, x1, x2, x3⟩ := HX.out.at
    obtain ⟨y0, y1, y2, y3⟩ := HY.out.at
    obtain ⟨f0, f1, f2, f3⟩ := HX.out.free
    obtain ⟨g0, g1, g2, g3⟩ := HY.out.free
    clear hb1 HXY
    go_wp2
    refine bodyPost_ret (v := .agg #[.bool u, .int .i64 i, .int .i64 r, .int .i64 l]) (by simp [results, Try.results36, go_sem, x0, x1, x2, x3, y0, y1, y2, y3]) rfl ?_
    exact ⟨by rw [HN.out], by (repeat' (first | (with_reducible exact Below.refl _ _) | (with_reducible refine Below.drew ?_) | (with_reducible refine Below.alloc ?_ ?_ _) | (with_reducible refine Below.setCell ?_ ?_ _) | (with_reducible refine Below.trans ?_ (HB1.out.mono ?_)) | (first | omega | (simp; omega) | (simp; done))))⟩
  | true =>
    have HM := Lib.hid hm
    obtain ⟨⟨i0, i1⟩, ⟨r0, r1⟩, _, _⟩ := srOk_iff.1 hm
    simp only at i0 i1 r0 r1
    by_cases hi : 0 < i
    · have HN := Lib.hid (show leaveS ⟨u, i, r, l⟩ = ⟨u, i - 1, r, l⟩ by unfold leaveS; rw [if_pos ⟨hm, hi⟩])
      clear hm
      go_enter Try.func36, Try.ntmps36
      go_wp2_with fail
      refine (srok_spec ⟨u, i, r, l⟩ _).mono ?_
      rintro e w1 ⟨rfl, hb1⟩
      rw [HM.out]
      have HX := Lib.hid (HXY.out.1.below hb1)
      have HY := Lib.hid (HXY.out.2.below hb1)
      have HB1 := Lib.hid (HB0.out.trans (hb1.mono (by simp; omega)))
      have q1 := HX.out.lt
      have q2 := HY.out.lt
      obtain ⟨x0, x1, x2, x3⟩ := HX.out.at
      obtain ⟨y0, y1, y2, y3⟩ := HY.out.at
      obtain ⟨f0, f1, f2, f3⟩ := HX.out.free
      obtain ⟨g0, g1, g2, g3⟩ := HY.out.free
      clear hb1 HXY
      go_wp2
      refine bodyPost_ret (v := .agg #[.bool u, .int .i64 (i - 1), .int .i64 r, .int .i64 l]) (by simp [results, Try.results36, go_sem, x0, x1, x2, x3, y0, y1, y2, y3]) rfl ?_
      exact ⟨by rw [HN.out], by (repeat' (first | (with_reducible exact Below.refl _ _) | (with_reducible refine Below.drew ?_) | (with_reducible refine Below.alloc ?_ ?_ _) | (with_reducible refine Below.setCell ?_ ?_ _) | (with_reducible refine Below.trans ?_ (HB1.out.mono ?_)) | (first | omega | (simp; omega) | (simp; done))))⟩
    · have HN := Lib.hid (show leaveS ⟨u, i, r, l⟩ = ⟨u, i, r, l⟩ by unfold leaveS; rw [if_neg (fun h => hi h.2)])
      have hi' := Int.not_lt.1 hi
      clear hm hi
      go_enter Try.func36, Try.ntmps36
      go_wp2_with fail
      refine (srok_spec ⟨u, i, r, l⟩ _).mono ?_
      rintro e w1 ⟨rfl, hb1⟩
      rw [HM.out]
      have HX := Lib.hid (HXY.out.1.below hb1)
      have HY := Lib.hid (HXY.out.2.below hb1)
      have HB1 := Lib.hid (HB0.out.trans (hb1.mono (by simp; omega)))
      have q1 := HX.out.lt
      have q2 := HY.out.lt
      obtain ⟨x0, x1, x2, x3⟩ := HX.out.at
      obtain ⟨y0, y1, y2, y3⟩ := HY.out.at
      obtain ⟨f0, f1, f2, f3⟩ := HX.out.free
      obtain ⟨g0, g1, g2, g3⟩ := HY.out.free
      clear hb1 HXY
      go_wp2
      refine bodyPost_ret (v := .agg #[.bool u, .int .i64 i, .int .i64 r, .int .i64 l]) (by simp [results, Try.results36, go_sem, x0, x1, x2, x3, y0, y1, y2, y3]) rfl ?_
      exact ⟨by rw [HN.out], by (repeat' (first | (with_reducible exact Below.refl _ _) | (with_reducible refine Below.drew ?_) | (with_reducible refine Below.alloc ?_ ?_ _) | (with_reducible refine Below.setCell ?_ ?_ _) | (with_reducible refine Below.trans ?_ (HB1.out.mono ?_)) | (first | omega | (simp; omega) | (simp; done))))⟩

set_option maxHeartbeats 2000000 in
theorem note_impl (T : Tn) (up : Bool) (w : World) : Calls Try.prog 29 #[.agg #[.bool T.u, .int .i64 T.c], .bool up] w (GivesTn w (noteT T up)) := by
  obtain ⟨u, c⟩ := T
  have hx : Box2 ((w.alloc (.cells #[.bool u, .int .i64 c] 40)).alloc (.cells #[.bool false, .int .i64 0] 40)) w.heap.size (.bool u) (.int .i64 c) 40 := (Box2.new w (.bool u) (.int .i64 c) 40).alloc _
  have hy : Box2 ((w.alloc (.cells #[.bool u, .int .i64 c] 40)).alloc (.cells #[.bool false, .int .i64 0] 40)) (w.heap.size + 1) (.bool false) (.int .i64 0) 40 := by
    have := Box2.new (w.alloc (.cells #[.bool u, .int .i64 c] 40)) (.bool false) (.int .i64 0) 40
    simpa using this
  have HXY := Lib.hid (And.intro hx hy)
  have HB0 := Lib.hid (((Below.refl w.heap.size w).alloc (Nat.le_refl _) (.cells #[.bool u, .int .i64 c] 40)).alloc (by simp) (.cells #[.bool false, .int .i64 0] 40))
  clear hx hy
  show Calls Try.prog 29 #[.agg #[.bool u, .int .i64 c], .bool up] w _
  cases hok : tnOk ⟨u, c⟩ with
  | false =>
    have HN := Lib.hid (show noteT ⟨u, c⟩ up = ⟨u, c⟩ by unfold noteT; rw [hok]; rfl)
    have HM := Lib.hid hok
    clear hok
    go_enter Try.func29, Try.ntmps29
    go_wp2_with fail
    refine (tnok_impl ⟨u, c⟩ _).mono ?_
    rintro e w1 ⟨rfl, hb1⟩
    rw [HM.out]
    have HX := Lib.hid (HXY.out.1.below hb1)
    have HY := Lib.hid (HXY.out.2.below hb1)
    have HB1 := Lib.hid (HB0.out.trans (hb1.mono (by simp; omega)))
    have q1 := HX.out.lt
    have q2 := HY.out.lt
    obtain ⟨x0, x1⟩ := HX.out.at
    obtain ⟨y0, y1⟩ := HY.out.at
    obtain ⟨f0, f1⟩ := HX.out.free
    obtain ⟨g0, g1⟩ := HY.out.free
    clear hb1 HXY
    go_wp2
    refine bodyPost_ret (v := .agg #[.bool u, .int .i64 c]) (by simp [results, Try.results29, go_sem, x0, x1, y0, y1]) rfl ?_
    exact ⟨by rw [HN.out], by (repeat' (first | (with_reducible exact Below.refl _ _) | (with_reducible refine Below.drew ?_) | (with_reducible refine Below.alloc ?_ ?_ _) | (with_reducible refine Below.setCell ?_ ?_ _) | (with_reducible refine Below.trans ?_ (HB1.out.mono ?_)) | (first | omega | (simp; omega) | (simp; done))))⟩
  | true =>
    have HM := Lib.hid hok
    have c0 := (inB_iff.1 (show inB c 0 1000000 = true from hok)).1
    have c1 := (inB_iff.1 (show inB c 0 1000000 = true from hok)).2
    clear hok
    cases u <;> cases up
    · by_cases hc : c < 1000000
      · have HN := Lib.hid (show noteT ⟨false, c⟩ false = ⟨false, c + 1⟩ by unfold noteT; rw [HM.out, if_pos rfl, if_pos rfl]; show (⟨_, min (c + 1) 1000000⟩ : Tn) = _; rw [Int.min_eq_left (by omega)])
        go_enter Try.func29, Try.ntmps29
        go_wp2_with fail
        refine (tnok_impl ⟨false, c⟩ _).mono ?_
        rintro e w1 ⟨rfl, hb1⟩
        rw [HM.out]
        have HX := Lib.hid (HXY.out.1.below hb1)
        have HY := Lib.hid (HXY.out.2.below hb1)
        have HB1 := Lib.hid (HB0.out.trans (hb1.mono (by simp; omega)))
        have q1 := HX.out.lt
        have q2 := HY.out.lt
        obtain ⟨x0, x1⟩ := HX.out.at
        obtain ⟨y0, y1⟩ := HY.out.at
        obtain ⟨f0, f1⟩ := HX.out.free
        obtain ⟨g0, g1⟩ := HY.out.free
        clear hb1 HXY
        go_wp2
        refine bodyPost_ret (v := .agg #[.bool false, .int .i64 (c + 1)]) (by simp [results, Try.results29, go_sem, x0, x1, y0, y1]) rfl ?_
        exact ⟨by rw [HN.out], by (repeat' (first | (with_reducible exact Below.refl _ _) | (with_reducible refine Below.drew ?_) | (with_reducible refine Below.alloc ?_ ?_ _) | (with_reducible refine Below.setCell ?_ ?_ _) | (with_reducible refine Below.trans ?_ (HB1.out.mono ?_)) | (first | omega | (simp; omega) | (simp; done))))⟩
      · have HN := Lib.hid (show noteT ⟨false, c⟩ false = ⟨false, 1000000⟩ by unfold noteT; rw [HM.out, if_pos rfl, if_pos rfl]; show (⟨_, min (c + 1) 1000000⟩ : Tn) = _; rw [Int.min_eq_right (by omega)])
        have hc' := Int.not_lt.1 hc
        clear hc
        go_enter Try.func29, Try.ntmps29
        go_wp2_with fail
        refine (tnok_impl ⟨false, c⟩ _).mono ?_
        rintro e w1 ⟨rfl, hb1⟩
        rw [HM.out]
        have HX := Lib.hid (HXY.out.1.below hb1)
        have HY := Lib.hid (HXY.out.2.below hb1)
        have HB1 := Lib.hid (HB0.out.trans (hb1.mono (by simp; omega)))
        have q1 := HX.out.lt
        have q2 := HY.out.lt
        obtain ⟨x0, x1⟩ := HX.out.at
        obtain ⟨y0, y1⟩ := HY.out.at
        obtain ⟨f0, f1⟩ := HX.out.free
        obtain ⟨g0, g1⟩ := HY.out.free
        clear hb1 HXY
        go_wp2
        refine bodyPost_ret (v := .agg #[.bool false, .int .i64 1000000]) (by simp [results, Try.results29, go_sem, x0, x1, y0, y1]) rfl ?_
        exact ⟨by rw [HN.out], by (repeat' (first | (with_reducible exact Below.refl _ _) | (with_reducible refine Below.drew ?_) | (with_reducible refine Below.alloc ?_ ?_ _) | (with_reducible refine Below.setCell ?_ ?_ _) | (with_reducible refine Below.trans ?_ (HB1.out.mono ?_)) | (first | omega | (simp; omega) | (simp; done))))⟩
    · have HN := Lib.hid (show noteT ⟨false, c⟩ true = ⟨true, 1⟩ by unfold noteT; rw [HM.out]; rfl)
      go_enter Try.func29, Try.ntmps29
      go_wp2_with fail
      refine (tnok_impl ⟨false, c⟩ _).mono ?_
      rintro e w1 ⟨rfl, hb1⟩
      rw [HM.out]
      have HX := Lib.hid (HXY.out.1.below hb1)
      have HY := Lib.hid (HXY.out.2.below hb1)
      have HB1 := Lib.hid (HB0.out.trans (hb1.mono (by simp; omega)))
      have q1 := HX.out.lt
      have q2 := HY.out.lt
      obtain ⟨x0, x1⟩ := HX.out.at
      obtain ⟨y0, y1⟩ := HY.out.at
      obtain ⟨f0, f1⟩ := HX.out.free
      obtain ⟨g0, g1⟩ := HY.out.free
      clear hb1 HXY
      go_wp2
      refine bodyPost_ret (v := .agg #[.bool true, .int .i64 1]) (by simp [results, Try.results29, go_sem, x0, x1, y0, y1]) rfl ?_
      exact ⟨by rw [HN.out], by (repeat' (first | (with_reducible exact Below.refl _ _) | (with_reducible refine Below.drew ?_) | (with_reducible refine Below.alloc ?_ ?_ _) | (with_reducible refine Below.setCell ?_ ?_ _) | (with_reducible refine Below.trans ?_ (HB1.out.mono ?_)) | (first | omega | (simp; omega) | (simp; done))))⟩
    · have HN := Lib.hid (show noteT ⟨true, c⟩ false = ⟨false, 1⟩ by unfold noteT; rw [HM.out]; rfl)
      go_enter Try.func29, Try.ntmps29
      go_wp2_with fail
      refine (tnok_impl ⟨true, c⟩ _).mono ?_
      rintro e w1 ⟨rfl, hb1⟩
      rw [HM.out]
      have HX := Lib.hid (HXY.out.1.below hb1)
      have HY := Lib.hid (HXY.out.2.below hb1)
      have HB1 := Lib.hid (HB0.out.trans (hb1.mono (by simp; omega)))
      have q1 := HX.out.lt
      have q2 := HY.out.lt
      obtain ⟨x0, x1⟩ := HX.out.at
      obtain ⟨y0, y1⟩ := HY.out.at
      obtain ⟨f0, f1⟩ := HX.out.free
      obtain ⟨g0, g1⟩ := HY.out.free
      clear hb1 HXY
      go_wp2
      refine bodyPost_ret (v := .agg #[.bool false, .int .i64 1]) (by simp [results, Try.results29, go_sem, x0, x1, y0, y1]) rfl ?_
      exact ⟨by rw [HN.out], by (repeat' (first | (with_reducible exact Below.refl _ _) | (with_reducible refine Below.drew ?_) | (with_reducible refine Below.alloc ?_ ?_ _) | (with_reducible refine Below.setCell ?_ ?_ _) | (with_reducible refine Below.trans ?_ (HB1.out.mono ?_)) | (first | omega | (simp; omega) | (simp; done))))⟩
    · by_cases hc : c < 1000000
      · have HN := Lib.hid (show noteT ⟨true, c⟩ true = ⟨true, c + 1⟩ by unfold noteT; rw [HM.out, if_pos rfl, if_pos rfl]; show (⟨_, min (c + 1) 1000000⟩ : Tn) = _; rw [Int.min_eq_left (by omega)])
        go_enter Try.func29, Try.ntmps29
        go_wp2_with fail
        refine (tnok_impl ⟨true, c⟩ _).mono ?_
        rintro e w1 ⟨rfl, hb1⟩
        rw [HM.out]
        have HX := Lib.hid (HXY.out.1.below hb1)
        have HY := Lib.hid (HXY.out.2.below hb1)
        have HB1 := Lib.hid (HB0.out.trans (hb1.mono (by simp; omega)))
        have q1 := HX.out.lt
        have q2 := HY.out.lt
        obtain ⟨x0, x1⟩ := HX.out.at
        obtain ⟨y0, y1⟩ := HY.out.at
        obtain ⟨f0, f1⟩ := HX.out.free
        obtain ⟨g0, g1⟩ := HY.out.free
        clear hb1 HXY
        go_wp2
        refine bodyPost_ret (v := .agg #[.bool true, .int .i64 (c + 1)]) (by simp [results, Try.results29, go_sem, x0, x1, y0, y1]) rfl ?_
        exact ⟨by rw [HN.out], by (repeat' (first | (with_reducible exact Below.refl _ _) | (with_reducible refine Below.drew ?_) | (with_reducible refine Below.alloc ?_ ?_ _) | (with_reducible refine Below.setCell ?_ ?_ _) | (with_reducible refine Below.trans ?_ (HB1.out.mono ?_)) | (first | omega | (simp; omega) | (simp; done))))⟩
      · have HN := Lib.hid (show noteT ⟨true, c⟩ true = ⟨true, 1000000⟩ by unfold noteT; rw [HM.out, if_pos rfl, if_pos rfl]; show (⟨_, min (c + 1) 1000000⟩ : Tn) = _; rw [Int.min_eq_right (by omega)])
        have hc' := Int.not_lt.1 hc
        clear hc
        go_enter Try.func29, Try.ntmps29
        go_wp2_with fail
        refine (tnok_impl ⟨true, c⟩ _).mono ?_
        rintro e w1 ⟨rfl, hb1⟩
        rw [HM.out]
        have HX := Lib.hid (HXY.out.1.below hb1)
        have HY := Lib.hid (HXY.out.2.below hb1)
        have HB1 := Lib.hid (HB0.out.trans (hb1.mono (by simp; omega)))
        have q1 := HX.out.lt
        have q2 := HY.out.lt
        obtain ⟨x0, x1⟩ := HX.out.at
        obtain ⟨y0, y1⟩ := HY.out.at
        obtain ⟨f0, f1⟩ := HX.out.free
        obtain ⟨g0, g1⟩ := HY.out.free
        clear hb1 HXY
        go_wp2
        refine bodyPost_ret (v := .agg #[.bool true, .int .i64 1000000]) (by simp [results, Try.results29, go_sem, x0, x1, y0, y1]) rfl ?_
        exact ⟨by rw [HN.out], by (repeat' (first | (with_reducible exact Below.refl _ _) | (with_reducible refine Below.drew ?_) | (with_reducible refine Below.alloc ?_ ?_ _) | (with_reducible refine Below.setCell ?_ ?_ _) | (with_reducible refine Below.trans ?_ (HB1.out.mono ?_)) | (first | omega | (simp; omega) | (simp; done))))⟩

set_option maxHeartbeats 2000000 in
theorem may_impl (S : Sr) (up o : Bool) (w : World) : Calls Try.prog 17 #[.agg #[.bool S.u, .int .i64 S.i, .int .i64 S.r, .int .i64 S.l], .bool up, .bool o] w (GivesB w (mayP S up o)) := by
  obtain ⟨u, i, r, l⟩ := S
  have HX0 := Lib.hid (Box4.new w (.bool u) (.int .i64 i) (.int .i64 r) (.int .i64 l) 26)
  have HB0 := Lib.hid ((Below.refl w.heap.size w).alloc (Nat.le_refl _) (.cells #[.bool u, .int .i64 i, .int .i64 r, .int .i64 l] 26))
  have HM := Lib.hid (show mayP ⟨u, i, r, l⟩ up o = (srOk ⟨u, i, r, l⟩ && (if up = u then decide (r < l) || !o else decide (i = 0))) from rfl)
  show Calls Try.prog 17 #[.agg #[.bool u, .int .i64 i, .int .i64 r, .int .i64 l], .bool up, .bool o] w _
  cases hok : srOk ⟨u, i, r, l⟩ with
  | false =>
    have HN := Lib.hid (HM.out.trans (by rw [hok, Bool.false_and]))
    have HK := Lib.hid hok
    clear hok HM
    go_enter Try.func17, Try.ntmps17
    go_wp2_with fail
    refine (srok_impl ⟨u, i, r, l⟩ _).mono ?_
    rintro e w1 ⟨rfl, hb1⟩
    rw [HK.out]
    have HB1 := Lib.hid (HB0.out.trans (hb1.mono HB0.out.size))
    clear hb1
    go_wp2
    go_ret
    exact ⟨ret_bool HN.out.symm, HB1.out⟩
  | true =>
    have HK := Lib.hid hok
    have HN := Lib.hid (HM.out.trans (by rw [hok, Bool.true_and]))
    clear hok HM
    by_cases h1 : r < l <;> by_cases h2 : i = 0 <;> cases u <;> cases up <;> cases o
    all_goals
      have HN' := Lib.hid (HN.out.trans (show _ = _ by simp [h1, h2]; rfl))
      first | have h1' := Int.not_lt.1 h1 | have h1' := h1
      first | subst h2 | have h2' : (i == 0) = false := by simp [h2]
      try clear h2
      clear h1 HN
      go_enter Try.func17, Try.ntmps17
      go_wp2_with fail
      refine (srok_impl ⟨_, _, r, l⟩ _).mono ?_
      rintro e w1 ⟨rfl, hb1⟩
      rw [HK.out]
      have HX := Lib.hid (HX0.out.below hb1)
      have HB1 := Lib.hid (HB0.out.trans (hb1.mono HB0.out.size))
      have q1 := HX.out.lt
      obtain ⟨x0, x1, x2, x3⟩ := HX.out.at
      clear hb1 HX0
      go_wp2
      go_ret
      refine ⟨ret_bool ?_, HB1.out⟩
      first | exact HN'.out.symm | (rw [HN'.out]; simp; omega)

set_option maxHeartbeats 2000000 in
theorem leave_impl (S : Sr) (w : World) : Calls Try.prog 16 #[.agg #[.bool S.u, .int .i64 S.i, .int .i64 S.r, .int .i64 S.l]] w (GivesSr w (leaveS S)) := by
  obtain ⟨u, i, r, l⟩ := S
  have hx : Box4 ((w.alloc (.cells #[.bool u, .int .i64 i, .int .i64 r, .int .i64 l] 26)).alloc (.cells #[.bool false, .int .i64 0, .int .i64 0, .int .i64 0] 26)) w.heap.size (.bool u) (.int .i64 i) (.int .i64 r) (.int .i64 l) 26 := (Box4.new w (.bool u) (.int .i64 i) (.int .i64 r) (.int .i64 l) 26).alloc _
  have hy : Box4 ((w.alloc (.cells #[.bool u, .int .i64 i, .int .i64 r, .int .i64 l] 26)).alloc (.cells #[.bool false, .int .i64 0, .int .i64 0, .int .i64 0] 26)) (w.heap.size + 1) (.bool false) (.int .i64 0) (.int .i64 0) (.int .i64 0) 26 := by
    have := Box4.new (w.alloc (.cells #[.bool u, .int .i64 i, .int .i64 r, .int .i64 l] 26)) (.bool false) (.int .i64 0) (.int .i64 0) (.int .i64 0) 26
    simpa using this
  have HXY := Lib.hid (And.intro hx hy)
  have HB0 := Lib.hid (((Below.refl w.heap.size w).alloc (Nat.le_refl _) (.cells #[.bool u, .int .i64 i, .int .i64 r, .int .i64 l] 26)).alloc (by simp) (.cells #[.bool false, .int .i64 0, .int .i64 0, .int .i64 0] 26))
  clear hx hy
  show Calls Try.prog 16 #[.agg #[.bool u, .int .i64 i, .int .i64 r, .int .i64 l]] w _
  cases hm : srOk ⟨u, i, r, l⟩ with
  | false =>
    have HN := Lib.hid (show leaveS ⟨u, i, r, l⟩ = ⟨u, i, r, l⟩ by unfold leaveS; rw [if_neg (by rw [hm]; simp)])
    have HM := Lib.hid hm
    clear hm
    go_enter Try.func16, Try.ntmps16
    go_wp2_with fail
    refine (srok_impl ⟨u, i, r, l⟩ _).mono ?_
    rintro e w1 ⟨rfl, hb1⟩
    rw [HM.out]
    have HX := Lib.hid (HXY.out.1.below hb1)
    have HY := Lib.hid (HXY.out.2.below hb1)
    have HB1 := Lib.hid (HB0.out.trans (hb1.mono (by simp; omega)))
    have q1 := HX.out.lt
    have q2 := HY.out.lt
    obtain ⟨x0, x1, x2, x3⟩ := HX.out.at
    obtain ⟨y0, y1, y2, y3⟩ := HY.out.at
    obtain ⟨f0, f1, f2, f3⟩ := HX.out.free
    obtain ⟨g0, g1, g2, g3⟩ := HY.out.free
    clear hb1 HXY
    go_wp2
    refine bodyPost_ret (v := .agg #[.bool u, .int .i64 i, .int .i64 r, .int .i64 l]) (by simp [results, Try.results16, go_sem, x0, x1, x2, x3, y0, y1, y2, y3]) rfl ?_
    exact ⟨by rw [HN.out], by (repeat' (first | (with_reducible exact Below.refl _ _) | (with_reducible refine Below.drew ?_) | (with_reducible refine Below.alloc ?_ ?_ _) | (with_reducible refine Below.setCell ?_ ?_ _) | (with_reducible refine Below.trans ?_ (HB1.out.mono ?_)) | (first | omega | (simp; omega) | (simp; done))))⟩
  | true =>
    have HM := Lib.hid hm
    obtain ⟨⟨i0, i1⟩, ⟨r0, r1⟩, _, _⟩ := srOk_iff.1 hm
    simp only at i0 i1 r0 r1
    by_cases hi : 0 < i
    · have HN := Lib.hid (show leaveS ⟨u, i, r, l⟩ = ⟨u, i - 1, r, l⟩ by unfold leaveS; rw [if_pos ⟨hm, hi⟩])
      clear hm
      go_enter Try.func16, Try.ntmps16
      go_wp2_with fail
      refine (srok_impl ⟨u, i, r, l⟩ _).mono ?_
      rintro e w1 ⟨rfl, hb1⟩
      rw [HM.out]
      have HX := Lib.hid (HXY.out.1.below hb1)
      have HY := Lib.hid (HXY.out.2.below hb1)
      have HB1 := Lib.hid (HB0.out.trans (hb1.mono (by simp; omega)))
      have q1 := HX.out.lt
      have q2 := HY.out.lt
      obtain ⟨x0, x1, x2, x3⟩ := HX.out.at
      obtain ⟨y0, y1, y2, y3⟩ := HY.out.at
      obtain ⟨f0, f1, f2, f3⟩ := HX.out.free
      obtain ⟨g0, g1, g2, g3⟩ := HY.out.free
      clear hb1 HXY
      go_wp2
      refine bodyPost_ret (v := .agg #[.bool u, .int .i64 (i - 1), .int .i64 r, .int .i64 l]) (by simp [results, Try.results16, go_sem, x0, x1, x2, x3, y0, y1, y2, y3]) rfl ?_
      exact ⟨by rw [HN.out], by (repeat' (first | (with_reducible exact Below.refl _ _) | (with_reducible refine Below.drew ?_) | (with_reducible refine Below.alloc ?_ ?_ _) | (with_reducible refine Below.setCell ?_ ?_ _) | (with_reducible refine Below.trans ?_ (HB1.out.mono ?_)) | (first | omega | (simp; omega) | (simp; done))))⟩
    · have HN := Lib.hid (show leaveS ⟨u, i, r, l⟩ = ⟨u, i, r, l⟩ by unfold leaveS; rw [if_neg (fun h => hi h.2)])
      have hi' := Int.not_lt.1 hi
      clear hm hi
      go_enter Try.func16, Try.ntmps16
      go_wp2_with fail
      refine (srok_impl ⟨u, i, r, l⟩ _).mono ?_
      rintro e w1 ⟨rfl, hb1⟩
      rw [HM.out]
      have HX := Lib.hid (HXY.out.1.below hb1)
      have HY := Lib.hid (HXY.out.2.below hb1)
      have HB1 := Lib.hid (HB0.out.trans (hb1.mono (by simp; omega)))
      have q1 := HX.out.lt
      have q2 := HY.out.lt
      obtain ⟨x0, x1, x2, x3⟩ := HX.out.at
      obtain ⟨y0, y1, y2, y3⟩ := HY.out.at
      obtain ⟨f0, f1, f2, f3⟩ := HX.out.free
      obtain ⟨g0, g1, g2, g3⟩ := HY.out.free
      clear hb1 HXY
      go_wp2
      refine bodyPost_ret (v := .agg #[.bool u, .int .i64 i, .int .i64 r, .int .i64 l]) (by simp [results, Try.results16, go_sem, x0, x1, x2, x3, y0, y1, y2, y3]) rfl ?_
      exact ⟨by rw [HN.out], by (repeat' (first | (with_reducible exact Below.refl _ _) | (with_reducible refine Below.drew ?_) | (with_reducible refine Below.alloc ?_ ?_ _) | (with_reducible refine Below.setCell ?_ ?_ _) | (with_reducible refine Below.trans ?_ (HB1.out.mono ?_)) | (first | omega | (simp; omega) | (simp; done))))⟩

end Go.Proofs.Ytaacgajpjkfplaa.C1
