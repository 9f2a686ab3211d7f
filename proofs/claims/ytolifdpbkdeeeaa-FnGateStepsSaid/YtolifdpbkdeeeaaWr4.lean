/- MoveGate, of the program and of its model. -/
import Derived.Test.YtolifdpbkdeeeaaWr3
namespace Go.Proofs.Ytolifdpbkdeeeaa.C1
open Go.ChangeShapes Go.WideShapes Go.ChangeAt Go.RowKit
set_option linter.unusedVariables false

theorem move_cases (W : Wr) (n : Int) : (wOk W = false ∧ moveW W n = W) ∨ (wOk W = true ∧ inB n 0 (10 * W.g) = false ∧ moveW W n = W) ∨ (wOk W = true ∧ inB n 0 (10 * W.g) = true ∧ moveW W n = { W with o := moveO W n }) := by
  cases h : wOk W with
  | false => exact .inl ⟨rfl, moveW_no (by unfold moveB; rw [h]; rfl)⟩
  | true =>
    cases h1 : inB n 0 (10 * W.g) with
    | false => exact .inr (.inl ⟨rfl, rfl, moveW_no (by unfold moveB; rw [h, h1]; rfl)⟩)
    | true => exact .inr (.inr ⟨rfl, rfl, moveW_yes (by unfold moveB; rw [h, h1]; rfl)⟩)
set_option maxHeartbeats 1000000 in
theorem move_spec (W : Wr) (n : Int) (w : World) : Calls Try.prog 54 #[.agg #[.int .i64 W.g, .int .i64 W.o, .int .i64 W.s, .int .i64 W.k, .int .i64 W.w], .int .i64 n] w (GivesW w (moveW W n)) := by
  have HB0 := Lib.hid (((Below.refl w.heap.size w).alloc (Nat.le_refl _) (.cells #[.int .i64 W.g, .int .i64 W.o, .int .i64 W.s, .int .i64 W.k, .int .i64 W.w] 48)).alloc (by simp) (.cells #[.int .i64 0, .int .i64 0, .int .i64 0, .int .i64 0, .int .i64 0] 48))
  go_enter Try.func54, Try.ntmps54
  go_wp2_with fail
  refine (wok_spec W _).mono ?_
  rintro e w1 ⟨rfl, hb1⟩
  have HB1 := Lib.hid (HB0.out.trans (hb1.mono (by simp; omega)))
  have hx := Box5.new w (.int .i64 W.g) (.int .i64 W.o) (.int .i64 W.s) (.int .i64 W.k) (.int .i64 W.w) 48
  have hr := Box5.new (w.alloc (.cells #[.int .i64 W.g, .int .i64 W.o, .int .i64 W.s, .int .i64 W.k, .int .i64 W.w] 48)) (.int .i64 0) (.int .i64 0) (.int .i64 0) (.int .i64 0) (.int .i64 0) 48
  simp only [World.size_alloc] at hr
  have HX := Lib.hid ((hx.alloc _).below hb1)
  have HR := Lib.hid (hr.below hb1)
  have q1 : w.heap.size + 1 < w1.heap.size := by have := hb1.size; simp at this; omega
  have q0 : w.heap.size < w1.heap.size := by omega
  obtain ⟨x0, x1, x2, x3, x4⟩ := HX.out.at
  obtain ⟨z0, z1, z2, z3, z4⟩ := HX.out.free
  obtain ⟨y0, y1, y2, y3, y4⟩ := HR.out.at
  obtain ⟨s0, s1, s2, s3, s4⟩ := HR.out.free
  clear hb1 hx hr
  rcases move_cases W n with ⟨h, hs⟩ | ⟨h, h1, hs⟩ | ⟨h, h1, hs⟩
  · have HS := Lib.hid hs
    rw [h]
    clear h hs
    go_wp2
    refine bodyPost_ret (v := .agg #[.int .i64 W.g, .int .i64 W.o, .int .i64 W.s, .int .i64 W.k, .int .i64 W.w]) (by simp [results, Try.results54, go_sem, y0, y1, y2, y3, y4]) rfl ?_
    rw [HS.out]
    exact ⟨rfl, by (repeat' (first | (with_reducible exact Below.refl _ _) | (with_reducible refine Below.drew ?_) | (with_reducible refine Below.alloc ?_ ?_ _) | (with_reducible refine Below.setCell ?_ ?_ _) | (with_reducible refine Below.trans ?_ (HB1.out.mono ?_)) | (first | omega | (simp; omega) | (simp; done))))⟩
  · have HS := Lib.hid hs
    obtain ⟨g0, g1⟩ : 1 ≤ W.g ∧ W.g ≤ 8 := ⟨(wOk_iff.1 h).g0, (wOk_iff.1 h).g1⟩
    rw [h]
    clear h hs
    go_wp2_with (go_at_call 106; refine (in_spec _ _ _ _).mono ?_; rintro e w' ⟨rfl, rfl⟩)
    refine bodyPost_ret (v := .agg #[.int .i64 W.g, .int .i64 W.o, .int .i64 W.s, .int .i64 W.k, .int .i64 W.w]) (by simp [results, Try.results54, go_sem, y0, y1, y2, y3, y4]) rfl ?_
    rw [HS.out]
    exact ⟨rfl, by (repeat' (first | (with_reducible exact Below.refl _ _) | (with_reducible refine Below.drew ?_) | (with_reducible refine Below.alloc ?_ ?_ _) | (with_reducible refine Below.setCell ?_ ?_ _) | (with_reducible refine Below.trans ?_ (HB1.out.mono ?_)) | (first | omega | (simp; omega) | (simp; done))))⟩
  · have HS := Lib.hid hs
    have P := wOk_iff.1 h
    have g0 := P.g0; have g1 := P.g1; have o0 := P.o0; have o1 := P.o1; have t0 := P.s0; have t1 := P.s1
    have n0 := (inB_iff.1 h1).1
    have n1 := (inB_iff.1 h1).2
    rw [h]
    clear h hs P
    go_wp2_with (go_at_call 106; refine (in_spec _ _ _ _).mono ?_; rintro e w' ⟨rfl, rfl⟩)
    all_goals
      refine bodyPost_ret (v := .agg #[.int .i64 W.g, .int .i64 (moveO W n), .int .i64 W.s, .int .i64 W.k, .int .i64 W.w]) (by simp [results, Try.results54, go_sem, y0, y1, y2, y3, y4]; try (unfold moveO; omega)) rfl ?_
      rw [HS.out]
      exact ⟨rfl, by (repeat' (first | (with_reducible exact Below.refl _ _) | (with_reducible refine Below.drew ?_) | (with_reducible refine Below.alloc ?_ ?_ _) | (with_reducible refine Below.setCell ?_ ?_ _) | (with_reducible refine Below.trans ?_ (HB1.out.mono ?_)) | (first | omega | (simp; omega) | (simp; done))))⟩
theorem full_b (W : Wr) (w : World) (h0 : 0 ≤ W.g) (h1 : W.g ≤ 8) : Calls Try.prog 85 #[.agg #[.int .i64 W.g, .int .i64 W.o, .int .i64 W.s, .int .i64 W.k, .int .i64 W.w]] w fun e w' => e = .returned (.int .i64 (10 * W.g)) ∧ Below w.heap.size w w' :=
  (full_impl _ _ _ _ _ _ h0 h1).mono fun e w' ⟨he, hw⟩ => ⟨he, by rw [hw]; exact (Below.refl _ _).alloc (Nat.le_refl _) _⟩
set_option maxHeartbeats 1000000 in
theorem move_impl (W : Wr) (n : Int) (w : World) : Calls Try.prog 38 #[.agg #[.int .i64 W.g, .int .i64 W.o, .int .i64 W.s, .int .i64 W.k, .int .i64 W.w], .int .i64 n] w (GivesW w (moveW W n)) := by
  have HB0 := Lib.hid (((Below.refl w.heap.size w).alloc (Nat.le_refl _) (.cells #[.int .i64 W.g, .int .i64 W.o, .int .i64 W.s, .int .i64 W.k, .int .i64 W.w] 48)).alloc (by simp) (.cells #[.int .i64 0, .int .i64 0, .int .i64 0, .int .i64 0, .int .i64 0] 48))
  go_enter Try.func38, Try.ntmps38
  go_wp2_with fail
  refine (wok_impl W _).mono ?_
  rintro e w1 ⟨rfl, hb1⟩
  have HB1 := Lib.hid (HB0.out.trans (hb1.mono (by simp; omega)))
  have hx := Box5.new w (.int .i64 W.g) (.int .i64 W.o) (.int .i64 W.s) (.int .i64 W.k) (.int .i64 W.w) 48
  have hr := Box5.new (w.alloc (.cells #[.int .i64 W.g, .int .i64 W.o, .int .i64 W.s, .int .i64 W.k, .int .i64 W.w] 48)) (.int .i64 0) (.int .i64 0) (.int .i64 0) (.int .i64 0) (.int .i64 0) 48
  simp only [World.size_alloc] at hr
  have HX := Lib.hid ((hx.alloc _).below hb1)
  have HR := Lib.hid (hr.below hb1)
  have q1 : w.heap.size + 1 < w1.heap.size := by have := hb1.size; simp at this; omega
  have q0 : w.heap.size < w1.heap.size := by omega
  obtain ⟨x0, x1, x2, x3, x4⟩ := HX.out.at
  obtain ⟨z0, z1, z2, z3, z4⟩ := HX.out.free
  obtain ⟨y0, y1, y2, y3, y4⟩ := HR.out.at
  obtain ⟨s0, s1, s2, s3, s4⟩ := HR.out.free
  clear hb1 hx hr
  rcases move_cases W n with ⟨h, hs⟩ | ⟨h, h1, hs⟩ | ⟨h, h1, hs⟩
  · have HS := Lib.hid hs
    rw [h]
    clear h hs
    go_wp2
    refine bodyPost_ret (v := .agg #[.int .i64 W.g, .int .i64 W.o, .int .i64 W.s, .int .i64 W.k, .int .i64 W.w]) (by simp [results, Try.results38, go_sem, y0, y1, y2, y3, y4]) rfl ?_
    rw [HS.out]
    exact ⟨rfl, by (repeat' (first | (with_reducible exact Below.refl _ _) | (with_reducible refine Below.drew ?_) | (with_reducible refine Below.alloc ?_ ?_ _) | (with_reducible refine Below.setCell ?_ ?_ _) | (with_reducible refine Below.trans ?_ (HB1.out.mono ?_)) | (first | omega | (simp; omega) | (simp; done))))⟩
  · have HS := Lib.hid hs
    obtain ⟨g0, g1⟩ : 1 ≤ W.g ∧ W.g ≤ 8 := ⟨(wOk_iff.1 h).g0, (wOk_iff.1 h).g1⟩
    rw [h]
    clear h hs
    by_cases n0 : n < 0
    · clear h1
      go_wp2
      refine bodyPost_ret (v := .agg #[.int .i64 W.g, .int .i64 W.o, .int .i64 W.s, .int .i64 W.k, .int .i64 W.w]) (by simp [results, Try.results38, go_sem, y0, y1, y2, y3, y4]) rfl ?_
      rw [HS.out]
      exact ⟨rfl, by (repeat' (first | (with_reducible exact Below.refl _ _) | (with_reducible refine Below.drew ?_) | (with_reducible refine Below.alloc ?_ ?_ _) | (with_reducible refine Below.setCell ?_ ?_ _) | (with_reducible refine Below.trans ?_ (HB1.out.mono ?_)) | (first | omega | (simp; omega) | (simp; done))))⟩
    · have n0' : 0 ≤ n := by omega
      have n1 : 10 * W.g < n := by
        rcases Int.lt_or_le (10 * W.g) n with hh | hh
        · exact hh
        · rw [inB_yes n0' hh] at h1; cases h1
      clear h1 n0
      go_wp2_with fail
      refine (full_b W _ (by omega) (by omega)).mono ?_
      rintro e w2 ⟨rfl, hb2⟩
      have HB2 := Lib.hid (HB1.out.trans (hb2.mono (by omega)))
      have HX2 := Lib.hid (HX.out.below hb2)
      have HR2 := Lib.hid (HR.out.below hb2)
      have q2 : w1.heap.size ≤ w2.heap.size := hb2.size
      clear hb2 x0 x1 x2 x3 x4 y0 y1 y2 y3 y4 z0 z1 z2 z3 z4 s0 s1 s2 s3 s4
      obtain ⟨x0, x1, x2, x3, x4⟩ := HX2.out.at
      obtain ⟨z0, z1, z2, z3, z4⟩ := HX2.out.free
      obtain ⟨y0, y1, y2, y3, y4⟩ := HR2.out.at
      obtain ⟨s0, s1, s2, s3, s4⟩ := HR2.out.free
      have q1' : w.heap.size + 1 < w2.heap.size := by omega
      have q0' : w.heap.size < w2.heap.size := by omega
      go_wp2
      refine bodyPost_ret (v := .agg #[.int .i64 W.g, .int .i64 W.o, .int .i64 W.s, .int .i64 W.k, .int .i64 W.w]) (by simp [results, Try.results38, go_sem, y0, y1, y2, y3, y4]) rfl ?_
      rw [HS.out]
      exact ⟨rfl, by (repeat' (first | (with_reducible exact Below.refl _ _) | (with_reducible refine Below.drew ?_) | (with_reducible refine Below.alloc ?_ ?_ _) | (with_reducible refine Below.setCell ?_ ?_ _) | (with_reducible refine Below.trans ?_ (HB2.out.mono ?_)) | (first | omega | (simp; omega) | (simp; done))))⟩
  · have HS := Lib.hid hs
    have P := wOk_iff.1 h
    have g0 := P.g0; have g1 := P.g1; have o0 := P.o0; have o1 := P.o1; have t0 := P.s0; have t1 := P.s1
    have n0 := (inB_iff.1 h1).1
    have n1 := (inB_iff.1 h1).2
    rw [h]
    clear h hs P h1
    go_wp2_with fail
    refine (full_b W _ (by omega) (by omega)).mono ?_
    rintro e w2 ⟨rfl, hb2⟩
    have HB2 := Lib.hid (HB1.out.trans (hb2.mono (by omega)))
    have HX2 := Lib.hid (HX.out.below hb2)
    have HR2 := Lib.hid (HR.out.below hb2)
    have q2 : w1.heap.size ≤ w2.heap.size := hb2.size
    clear hb2 x0 x1 x2 x3 x4 y0 y1 y2 y3 y4 z0 z1 z2 z3 z4 s0 s1 s2 s3 s4
    obtain ⟨x0, x1, x2, x3, x4⟩ := HX2.out.at
    obtain ⟨z0, z1, z2, z3, z4⟩ := HX2.out.free
    obtain ⟨y0, y1, y2, y3, y4⟩ := HR2.out.at
    obtain ⟨s0, s1, s2, s3, s4⟩ := HR2.out.free
    have q1' : w.heap.size + 1 < w2.heap.size := by omega
    have q0' : w.heap.size < w2.heap.size := by omega
    go_wp2
    all_goals
      refine bodyPost_ret (v := .agg #[.int .i64 W.g, .int .i64 (moveO W n), .int .i64 W.s, .int .i64 W.k, .int .i64 W.w]) (by simp [results, Try.results38, go_sem, y0, y1, y2, y3, y4]; try (unfold moveO; omega)) rfl ?_
      rw [HS.out]
      exact ⟨rfl, by (repeat' (first | (with_reducible exact Below.refl _ _) | (with_reducible refine Below.drew ?_) | (with_reducible refine Below.alloc ?_ ?_ _) | (with_reducible refine Below.setCell ?_ ?_ _) | (with_reducible refine Below.trans ?_ (HB2.out.mono ?_)) | (first | omega | (simp; omega) | (simp; done))))⟩
end Go.Proofs.Ytolifdpbkdeeeaa.C1
