/- SteerWeir, of the program and of its model. (written by wip/genwr9.py) -/
import Derived.Test.YtolifdpbkdeeeaaWr8
namespace Go.Proofs.Ytolifdpbkdeeeaa.C1
open Go.ChangeShapes Go.WideShapes Go.ChangeAt Go.RowKit
set_option linter.unusedVariables false

theorem keep5 {w : World} {b g i : Nat} {v a0 a1 a2 a3 a4 : Value} (hne : b ≠ g) (h : w.cell? ⟨b, i, none⟩ = some v) :
    (((((w.setCell ⟨g, 0, none⟩ a0).setCell ⟨g, 1, none⟩ a1).setCell ⟨g, 2, none⟩ a2).setCell ⟨g, 3, none⟩ a3).setCell ⟨g, 4, none⟩ a4).cell? ⟨b, i, none⟩ = some v := by
  have e : ∀ j : Nat, (⟨g, j, none⟩ : Addr) ≠ ⟨b, i, none⟩ := fun j h => by injection h with h1 _; exact hne h1.symm
  rw [World.cell?_setCell_other _ _ _ _ (e 4), World.cell?_setCell_other _ _ _ _ (e 3), World.cell?_setCell_other _ _ _ _ (e 2), World.cell?_setCell_other _ _ _ _ (e 1), World.cell?_setCell_other _ _ _ _ (e 0)]
  exact h
theorem steer_cases (W : Wr) (U : Ru) (up down x : Int) : (wOk W = false ∧ steerW W U up down x = W) ∨ (wOk W = true ∧ uOk U = false ∧ steerW W U up down x = W) ∨ (wOk W = true ∧ uOk U = true ∧ inB x 0 1000000000 = false ∧ steerW W U up down x = W) ∨
    (wOk W = true ∧ uOk U = true ∧ inB x 0 1000000000 = true ∧ inB up 0 100000 = false ∧ steerW W U up down x = W) ∨ (wOk W = true ∧ uOk U = true ∧ inB x 0 1000000000 = true ∧ inB up 0 100000 = true ∧ inB down 0 100000 = false ∧ steerW W U up down x = W) ∨
    (wOk W = true ∧ uOk U = true ∧ inB x 0 1000000000 = true ∧ inB up 0 100000 = true ∧ inB down 0 100000 = true ∧ steerW W U up down x = moveW W (steerN W U up down x)) := by
  unfold steerW steerB
  cases wOk W <;> cases uOk U <;> cases inB x 0 1000000000 <;> cases inB up 0 100000 <;> cases inB down 0 100000 <;> simp
section
variable {W0 w : World} {HB : Hid (Below W0.heap.size W0 w)}
include HB
theorem full_hb (W : Wr) (h0 : 0 ≤ W.g) (h1 : W.g ≤ 8) : Calls Try.prog 85 #[.agg #[.int .i64 W.g, .int .i64 W.o, .int .i64 W.s, .int .i64 W.k, .int .i64 W.w]] w fun e w' => e = .returned (.int .i64 (10 * W.g)) ∧ Hid (Below W0.heap.size W0 w') :=
  (full_b W w h0 h1).mono fun e w' ⟨h1, h2⟩ => ⟨h1, Lib.hid (HB.out.trans (h2.mono HB.out.size))⟩
theorem moveimpl_hb (W : Wr) (n : Int) : Calls Try.prog 38 #[.agg #[.int .i64 W.g, .int .i64 W.o, .int .i64 W.s, .int .i64 W.k, .int .i64 W.w], .int .i64 n] w fun e w' => e = .returned (.agg #[.int .i64 (moveW W n).g, .int .i64 (moveW W n).o, .int .i64 (moveW W n).s, .int .i64 (moveW W n).k, .int .i64 (moveW W n).w]) ∧ Hid (Below W0.heap.size W0 w') :=
  (move_impl W n w).mono fun e w' ⟨h1, h2⟩ => ⟨h1, Lib.hid (HB.out.trans (h2.mono HB.out.size))⟩
theorem openimpl_hb (W : Wr) (up down flow : Int) : Calls Try.prog 35 #[.agg #[.int .i64 W.g, .int .i64 W.o, .int .i64 W.s, .int .i64 W.k, .int .i64 W.w], .int .i64 up, .int .i64 down, .int .i64 flow] w fun e w' => e = .returned (.int .i64 (openZ W up down flow)) ∧ Hid (Below W0.heap.size W0 w') :=
  (open_impl W up down flow w).mono fun e w' ⟨h1, h2⟩ => ⟨h1, Lib.hid (HB.out.trans (h2.mono HB.out.size))⟩
theorem wantimpl_hb (U : Ru) (level x : Int) : Calls Try.prog 40 #[.agg #[.int .i64 U.l, .int .i64 U.h, .int .i64 U.f], .int .i64 level, .int .i64 x] w fun e w' => e = .returned (.int .i64 (wantZ U level x)) ∧ Hid (Below W0.heap.size W0 w') :=
  (want_impl U level x w).mono fun e w' ⟨h1, h2⟩ => ⟨h1, Lib.hid (HB.out.trans (h2.mono HB.out.size))⟩
theorem movespec_hb (W : Wr) (n : Int) : Calls Try.prog 54 #[.agg #[.int .i64 W.g, .int .i64 W.o, .int .i64 W.s, .int .i64 W.k, .int .i64 W.w], .int .i64 n] w fun e w' => e = .returned (.agg #[.int .i64 (moveW W n).g, .int .i64 (moveW W n).o, .int .i64 (moveW W n).s, .int .i64 (moveW W n).k, .int .i64 (moveW W n).w]) ∧ Hid (Below W0.heap.size W0 w') :=
  (move_spec W n w).mono fun e w' ⟨h1, h2⟩ => ⟨h1, Lib.hid (HB.out.trans (h2.mono HB.out.size))⟩
theorem openspec_hb (W : Wr) (up down flow : Int) : Calls Try.prog 56 #[.agg #[.int .i64 W.g, .int .i64 W.o, .int .i64 W.s, .int .i64 W.k, .int .i64 W.w], .int .i64 up, .int .i64 down, .int .i64 flow] w fun e w' => e = .returned (.int .i64 (openZ W up down flow)) ∧ Hid (Below W0.heap.size W0 w') :=
  (open_spec W up down flow w).mono fun e w' ⟨h1, h2⟩ => ⟨h1, Lib.hid (HB.out.trans (h2.mono HB.out.size))⟩
theorem wantspec_hb (U : Ru) (level x : Int) : Calls Try.prog 59 #[.agg #[.int .i64 U.l, .int .i64 U.h, .int .i64 U.f], .int .i64 level, .int .i64 x] w fun e w' => e = .returned (.int .i64 (wantZ U level x)) ∧ Hid (Below W0.heap.size W0 w') :=
  (want_spec U level x w).mono fun e w' ⟨h1, h2⟩ => ⟨h1, Lib.hid (HB.out.trans (h2.mono HB.out.size))⟩
end
set_option maxHeartbeats 4000000 in
set_option maxRecDepth 100000 in
theorem steer_impl (W : Wr) (U : Ru) (up down x : Int) (w : World) : Calls Try.prog 41 #[.agg #[.int .i64 W.g, .int .i64 W.o, .int .i64 W.s, .int .i64 W.k, .int .i64 W.w], .agg #[.int .i64 U.l, .int .i64 U.h, .int .i64 U.f], .int .i64 up, .int .i64 down, .int .i64 x] w (GivesW w (steerW W U up down x)) := by
  have HB0 := Lib.hid ((((Below.refl w.heap.size w).alloc (Nat.le_refl _) (.cells #[.int .i64 W.g, .int .i64 W.o, .int .i64 W.s, .int .i64 W.k, .int .i64 W.w] 48)).alloc (by simp) (.cells #[.int .i64 U.l, .int .i64 U.h, .int .i64 U.f] 55)).alloc (by simp; omega) (.cells #[.int .i64 0, .int .i64 0, .int .i64 0, .int .i64 0, .int .i64 0] 48))
  have hx := ((Box5.new w (.int .i64 W.g) (.int .i64 W.o) (.int .i64 W.s) (.int .i64 W.k) (.int .i64 W.w) 48).alloc (.cells #[.int .i64 U.l, .int .i64 U.h, .int .i64 U.f] 55)).alloc (.cells #[.int .i64 0, .int .i64 0, .int .i64 0, .int .i64 0, .int .i64 0] 48)
  have hu := (Box.new (w.alloc (.cells #[.int .i64 W.g, .int .i64 W.o, .int .i64 W.s, .int .i64 W.k, .int .i64 W.w] 48)) (.int .i64 U.l) (.int .i64 U.h) (.int .i64 U.f) 55).alloc (.cells #[.int .i64 0, .int .i64 0, .int .i64 0, .int .i64 0, .int .i64 0] 48)
  have hr := Box5.new ((w.alloc (.cells #[.int .i64 W.g, .int .i64 W.o, .int .i64 W.s, .int .i64 W.k, .int .i64 W.w] 48)).alloc (.cells #[.int .i64 U.l, .int .i64 U.h, .int .i64 U.f] 55)) (.int .i64 0) (.int .i64 0) (.int .i64 0) (.int .i64 0) (.int .i64 0) 48
  simp only [World.size_alloc] at hu hr
  have HX0 := Lib.hid hx
  have HU0 := Lib.hid hu
  have HR0 := Lib.hid hr
  clear hx hu hr
  go_enter Try.func41, Try.ntmps41
  go_wp2_with fail
  refine (wok_impl W _).mono ?_
  rintro e w1 ⟨rfl, hb1⟩
  have HB1 := Lib.hid (HB0.out.trans (hb1.mono (by simp; omega)))
  have HX1 := Lib.hid (HX0.out.below hb1)
  have HU1 := Lib.hid (HU0.out.below hb1)
  have HR1 := Lib.hid (HR0.out.below hb1)
  have q1 : w.heap.size + 1 + 1 < w1.heap.size := by have := hb1.size; simp at this; omega
  clear hb1 HX0 HU0 HR0
  rcases steer_cases W U up down x with ⟨h, hs⟩ | ⟨h, h1, hs⟩ | ⟨h, h1, h2, hs⟩ | ⟨h, h1, h2, h3, hs⟩ | ⟨h, h1, h2, h3, h4, hs⟩ | ⟨h, h1, h2, h3, h4, hs⟩
  · have HS := Lib.hid hs
    rw [h]
    clear h hs
    obtain ⟨x0, x1, x2, x3, x4⟩ := HX1.out.at
    obtain ⟨y0, y1, y2, y3, y4⟩ := HR1.out.at
    obtain ⟨s0, s1, s2, s3, s4⟩ := HR1.out.free
    go_wp2
    refine bodyPost_ret (v := .agg #[.int .i64 W.g, .int .i64 W.o, .int .i64 W.s, .int .i64 W.k, .int .i64 W.w]) (by simp [results, Try.results41, go_sem, y0, y1, y2, y3, y4]) rfl ?_
    rw [HS.out]
    exact ⟨rfl, by (repeat' (first | (with_reducible exact Below.refl _ _) | (with_reducible refine Below.drew ?_) | (with_reducible refine Below.alloc ?_ ?_ _) | (with_reducible refine Below.setCell ?_ ?_ _) | (with_reducible refine Below.trans ?_ (HB1.out.mono ?_)) | (first | omega | (simp; omega) | (simp; done))))⟩
  · have HS := Lib.hid hs
    have H1 := Lib.hid h1
    have P := wOk_iff.1 h
    have g0 := P.g0; have g1 := P.g1
    rw [h]
    clear h hs h1 P
    obtain ⟨v0, v1, v2⟩ := HU1.out.at
    have ql : w.heap.size + 1 < w1.heap.size := by omega
    go_wp2_with fail
    refine (uok_impl U _).mono ?_
    rintro e w2 ⟨rfl, hb2⟩
    rw [H1.out]
    have HB2 := Lib.hid (HB1.out.trans (hb2.mono (by omega)))
    have HX2 := Lib.hid (HX1.out.below hb2)
    have HU2 := Lib.hid (HU1.out.below hb2)
    have HR2 := Lib.hid (HR1.out.below hb2)
    have q2 : w.heap.size + 1 + 1 < w2.heap.size := by have := hb2.size; omega
    have q2a : w.heap.size + 1 < w2.heap.size := by omega
    have q2b : w.heap.size < w2.heap.size := by omega
    clear hb2 v0 v1 v2 q1 ql HX1 HU1 HR1
    obtain ⟨x0, x1, x2, x3, x4⟩ := HX2.out.at
    obtain ⟨y0, y1, y2, y3, y4⟩ := HR2.out.at
    obtain ⟨s0, s1, s2, s3, s4⟩ := HR2.out.free
    go_wp2
    refine bodyPost_ret (v := .agg #[.int .i64 W.g, .int .i64 W.o, .int .i64 W.s, .int .i64 W.k, .int .i64 W.w]) (by simp [results, Try.results41, go_sem, y0, y1, y2, y3, y4]) rfl ?_
    rw [HS.out]
    exact ⟨rfl, by (repeat' (first | (with_reducible exact Below.refl _ _) | (with_reducible refine Below.drew ?_) | (with_reducible refine Below.alloc ?_ ?_ _) | (with_reducible refine Below.setCell ?_ ?_ _) | (with_reducible refine Below.trans ?_ (HB2.out.mono ?_)) | (first | omega | (simp; omega) | (simp; done))))⟩
  · have HS := Lib.hid hs
    have H1 := Lib.hid h1
    have P := wOk_iff.1 h
    have g0 := P.g0; have g1 := P.g1
    rw [h]
    clear h hs h1 P
    obtain ⟨v0, v1, v2⟩ := HU1.out.at
    have ql : w.heap.size + 1 < w1.heap.size := by omega
    go_wp2_with fail
    refine (uok_impl U _).mono ?_
    rintro e w2 ⟨rfl, hb2⟩
    rw [H1.out]
    have HB2 := Lib.hid (HB1.out.trans (hb2.mono (by omega)))
    have HX2 := Lib.hid (HX1.out.below hb2)
    have HU2 := Lib.hid (HU1.out.below hb2)
    have HR2 := Lib.hid (HR1.out.below hb2)
    have q2 : w.heap.size + 1 + 1 < w2.heap.size := by have := hb2.size; omega
    have q2a : w.heap.size + 1 < w2.heap.size := by omega
    have q2b : w.heap.size < w2.heap.size := by omega
    clear hb2 v0 v1 v2 q1 ql HX1 HU1 HR1
    obtain ⟨x0, x1, x2, x3, x4⟩ := HX2.out.at
    obtain ⟨y0, y1, y2, y3, y4⟩ := HR2.out.at
    obtain ⟨s0, s1, s2, s3, s4⟩ := HR2.out.free
    go_wp2_with (first | (go_at_call 71; refine (amount_impl _ _).mono ?_; rintro e w' ⟨rfl, rfl⟩) | (go_at_call 82; refine (lev_impl _ _).mono ?_; rintro e w' ⟨rfl, rfl⟩))
    refine bodyPost_ret (v := .agg #[.int .i64 W.g, .int .i64 W.o, .int .i64 W.s, .int .i64 W.k, .int .i64 W.w]) (by simp [results, Try.results41, go_sem, y0, y1, y2, y3, y4]) rfl ?_
    rw [HS.out]
    exact ⟨rfl, by (repeat' (first | (with_reducible exact Below.refl _ _) | (with_reducible refine Below.drew ?_) | (with_reducible refine Below.alloc ?_ ?_ _) | (with_reducible refine Below.setCell ?_ ?_ _) | (with_reducible refine Below.trans ?_ (HB2.out.mono ?_)) | (first | omega | (simp; omega) | (simp; done))))⟩
  · have HS := Lib.hid hs
    have H1 := Lib.hid h1
    have P := wOk_iff.1 h
    have g0 := P.g0; have g1 := P.g1
    rw [h]
    clear h hs h1 P
    obtain ⟨v0, v1, v2⟩ := HU1.out.at
    have ql : w.heap.size + 1 < w1.heap.size := by omega
    go_wp2_with fail
    refine (uok_impl U _).mono ?_
    rintro e w2 ⟨rfl, hb2⟩
    rw [H1.out]
    have HB2 := Lib.hid (HB1.out.trans (hb2.mono (by omega)))
    have HX2 := Lib.hid (HX1.out.below hb2)
    have HU2 := Lib.hid (HU1.out.below hb2)
    have HR2 := Lib.hid (HR1.out.below hb2)
    have q2 : w.heap.size + 1 + 1 < w2.heap.size := by have := hb2.size; omega
    have q2a : w.heap.size + 1 < w2.heap.size := by omega
    have q2b : w.heap.size < w2.heap.size := by omega
    clear hb2 v0 v1 v2 q1 ql HX1 HU1 HR1
    obtain ⟨x0, x1, x2, x3, x4⟩ := HX2.out.at
    obtain ⟨y0, y1, y2, y3, y4⟩ := HR2.out.at
    obtain ⟨s0, s1, s2, s3, s4⟩ := HR2.out.free
    go_wp2_with (first | (go_at_call 71; refine (amount_impl _ _).mono ?_; rintro e w' ⟨rfl, rfl⟩) | (go_at_call 82; refine (lev_impl _ _).mono ?_; rintro e w' ⟨rfl, rfl⟩))
    refine bodyPost_ret (v := .agg #[.int .i64 W.g, .int .i64 W.o, .int .i64 W.s, .int .i64 W.k, .int .i64 W.w]) (by simp [results, Try.results41, go_sem, y0, y1, y2, y3, y4]) rfl ?_
    rw [HS.out]
    exact ⟨rfl, by (repeat' (first | (with_reducible exact Below.refl _ _) | (with_reducible refine Below.drew ?_) | (with_reducible refine Below.alloc ?_ ?_ _) | (with_reducible refine Below.setCell ?_ ?_ _) | (with_reducible refine Below.trans ?_ (HB2.out.mono ?_)) | (first | omega | (simp; omega) | (simp; done))))⟩
  · have HS := Lib.hid hs
    have H1 := Lib.hid h1
    have P := wOk_iff.1 h
    have g0 := P.g0; have g1 := P.g1
    rw [h]
    clear h hs h1 P
    obtain ⟨v0, v1, v2⟩ := HU1.out.at
    have ql : w.heap.size + 1 < w1.heap.size := by omega
    go_wp2_with fail
    refine (uok_impl U _).mono ?_
    rintro e w2 ⟨rfl, hb2⟩
    rw [H1.out]
    have HB2 := Lib.hid (HB1.out.trans (hb2.mono (by omega)))
    have HX2 := Lib.hid (HX1.out.below hb2)
    have HU2 := Lib.hid (HU1.out.below hb2)
    have HR2 := Lib.hid (HR1.out.below hb2)
    have q2 : w.heap.size + 1 + 1 < w2.heap.size := by have := hb2.size; omega
    have q2a : w.heap.size + 1 < w2.heap.size := by omega
    have q2b : w.heap.size < w2.heap.size := by omega
    clear hb2 v0 v1 v2 q1 ql HX1 HU1 HR1
    obtain ⟨x0, x1, x2, x3, x4⟩ := HX2.out.at
    obtain ⟨y0, y1, y2, y3, y4⟩ := HR2.out.at
    obtain ⟨s0, s1, s2, s3, s4⟩ := HR2.out.free
    go_wp2_with (first | (go_at_call 71; refine (amount_impl _ _).mono ?_; rintro e w' ⟨rfl, rfl⟩) | (go_at_call 82; refine (lev_impl _ _).mono ?_; rintro e w' ⟨rfl, rfl⟩))
    refine bodyPost_ret (v := .agg #[.int .i64 W.g, .int .i64 W.o, .int .i64 W.s, .int .i64 W.k, .int .i64 W.w]) (by simp [results, Try.results41, go_sem, y0, y1, y2, y3, y4]) rfl ?_
    rw [HS.out]
    exact ⟨rfl, by (repeat' (first | (with_reducible exact Below.refl _ _) | (with_reducible refine Below.drew ?_) | (with_reducible refine Below.alloc ?_ ?_ _) | (with_reducible refine Below.setCell ?_ ?_ _) | (with_reducible refine Below.trans ?_ (HB2.out.mono ?_)) | (first | omega | (simp; omega) | (simp; done))))⟩
  · have HS := Lib.hid hs
    have H1 := Lib.hid h1
    have P := wOk_iff.1 h
    have g0 := P.g0; have g1 := P.g1
    rw [h]
    clear h hs h1 P
    obtain ⟨v0, v1, v2⟩ := HU1.out.at
    have ql : w.heap.size + 1 < w1.heap.size := by omega
    go_wp2_with fail
    refine (uok_impl U _).mono ?_
    rintro e w2 ⟨rfl, hb2⟩
    rw [H1.out]
    have HB2 := Lib.hid (HB1.out.trans (hb2.mono (by omega)))
    have HX2 := Lib.hid (HX1.out.below hb2)
    have HU2 := Lib.hid (HU1.out.below hb2)
    have HR2 := Lib.hid (HR1.out.below hb2)
    have q2 : w.heap.size + 1 + 1 < w2.heap.size := by have := hb2.size; omega
    have q2a : w.heap.size + 1 < w2.heap.size := by omega
    have q2b : w.heap.size < w2.heap.size := by omega
    clear hb2 v0 v1 v2 q1 ql HX1 HU1 HR1
    obtain ⟨x0, x1, x2, x3, x4⟩ := HX2.out.at
    obtain ⟨v0, v1, v2⟩ := HU2.out.at
    by_cases hf : U.f ≤ up
    · have HN := Lib.hid (show steerN W U up down x = 10 * W.g by unfold steerN; rw [if_pos hf])
      go_wp2_with (first | (go_at_call 71; refine (amount_impl _ _).mono ?_; rintro e w' ⟨rfl, rfl⟩) | (go_at_call 82; refine (lev_impl _ _).mono ?_; rintro e w' ⟨rfl, rfl⟩))
      go_region_held3 (fun w' => w'.cell? ⟨w.heap.size, 0, none⟩ = some (.int .i64 W.g) ∧ w'.cell? ⟨w.heap.size, 1, none⟩ = some (.int .i64 W.o) ∧ w'.cell? ⟨w.heap.size, 2, none⟩ = some (.int .i64 W.s) ∧ w'.cell? ⟨w.heap.size, 3, none⟩ = some (.int .i64 W.k) ∧ w'.cell? ⟨w.heap.size, 4, none⟩ = some (.int .i64 W.w) ∧ w'.cell? ⟨w.heap.size + 1, 0, none⟩ = some (.int .i64 U.l) ∧ w'.cell? ⟨w.heap.size + 1, 1, none⟩ = some (.int .i64 U.h) ∧ w'.cell? ⟨w.heap.size + 1, 2, none⟩ = some (.int .i64 U.f))
        (first
        | (with_reducible exact ⟨x0, x1, x2, x3, x4, v0, v1, v2⟩)
        | (with_reducible assumption)
        | (obtain ⟨a0, a1, a2, a3, a4, a5, a6, a7⟩ : _ ∧ _ ∧ _ ∧ _ ∧ _ ∧ _ ∧ _ ∧ _ := by assumption
           with_reducible refine ⟨keep5 ?_ a0, keep5 ?_ a1, keep5 ?_ a2, keep5 ?_ a3, keep5 ?_ a4, keep5 ?_ a5, keep5 ?_ a6, keep5 ?_ a7⟩ <;> omega)
        | exact ⟨x0, x1, x2, x3, x4, v0, v1, v2⟩)
        (first
        | (go_at_call 85
           refine (full_hb (W0 := w2) (HB := by first | assumption | exact Lib.hid (Below.refl _ _) | exact Lib.hid (Below.refl _ _).drew) W (by omega) (by omega)).mono ?_
           rintro e w' ⟨rfl, HBy⟩
           have HRy := Lib.hid (HR2.out.below HBy.out)
           obtain ⟨y0, y1, y2, y3, y4⟩ := HRy.out.at
           obtain ⟨s0, s1, s2, s3, s4⟩ := HRy.out.free
           obtain ⟨a0, a1, a2, a3, a4⟩ := (HX2.out.below HBy.out).at
           obtain ⟨a5, a6, a7⟩ := (HU2.out.below HBy.out).at
           have S1 := And.intro a0 (And.intro a1 (And.intro a2 (And.intro a3 (And.intro a4 (And.intro a5 (And.intro a6 a7))))))
           clear a0 a1 a2 a3 a4 a5 a6 a7)
        | (go_at_call 38
           refine (moveimpl_hb (W0 := w2) (HB := by first | assumption | exact Lib.hid (Below.refl _ _) | exact Lib.hid (Below.refl _ _).drew) W _).mono ?_
           rintro e w' ⟨rfl, HBy⟩
           have HRy := Lib.hid (HR2.out.below HBy.out)
           obtain ⟨y0, y1, y2, y3, y4⟩ := HRy.out.at
           obtain ⟨s0, s1, s2, s3, s4⟩ := HRy.out.free
           obtain ⟨a0, a1, a2, a3, a4⟩ := (HX2.out.below HBy.out).at
           obtain ⟨a5, a6, a7⟩ := (HU2.out.below HBy.out).at
           have S1 := And.intro a0 (And.intro a1 (And.intro a2 (And.intro a3 (And.intro a4 (And.intro a5 (And.intro a6 a7))))))
           clear a0 a1 a2 a3 a4 a5 a6 a7))
      all_goals
        go_wp2
        refine bodyPost_ret (v := .agg #[.int .i64 (moveW W (10 * W.g)).g, .int .i64 (moveW W (10 * W.g)).o, .int .i64 (moveW W (10 * W.g)).s, .int .i64 (moveW W (10 * W.g)).k, .int .i64 (moveW W (10 * W.g)).w]) (by simp [results, Try.results41, go_sem, y0, y1, y2, y3, y4]) rfl ?_
        rw [HS.out, HN.out]
        exact ⟨rfl, by (repeat' (first | (with_reducible exact Below.refl _ _) | (with_reducible refine Below.drew ?_) | (with_reducible refine Below.alloc ?_ ?_ _) | (with_reducible refine Below.setCell ?_ ?_ _) | (with_reducible refine Below.trans ?_ (HB2.out.mono ?_)) | (with_reducible refine Below.trans ?_ (HBy.out.mono ?_)) | (first | omega | (simp; omega) | (simp; done))))⟩
    · have hf' : up < U.f := by omega
      have HN := Lib.hid (show steerN W U up down x = openZ W up down (wantZ U up x) by unfold steerN; rw [if_neg hf])
      clear hf
      go_wp2_with (first | (go_at_call 71; refine (amount_impl _ _).mono ?_; rintro e w' ⟨rfl, rfl⟩) | (go_at_call 82; refine (lev_impl _ _).mono ?_; rintro e w' ⟨rfl, rfl⟩))
      go_region_held3 (fun w' => w'.cell? ⟨w.heap.size, 0, none⟩ = some (.int .i64 W.g) ∧ w'.cell? ⟨w.heap.size, 1, none⟩ = some (.int .i64 W.o) ∧ w'.cell? ⟨w.heap.size, 2, none⟩ = some (.int .i64 W.s) ∧ w'.cell? ⟨w.heap.size, 3, none⟩ = some (.int .i64 W.k) ∧ w'.cell? ⟨w.heap.size, 4, none⟩ = some (.int .i64 W.w) ∧ w'.cell? ⟨w.heap.size + 1, 0, none⟩ = some (.int .i64 U.l) ∧ w'.cell? ⟨w.heap.size + 1, 1, none⟩ = some (.int .i64 U.h) ∧ w'.cell? ⟨w.heap.size + 1, 2, none⟩ = some (.int .i64 U.f))
        (first
        | (with_reducible exact ⟨x0, x1, x2, x3, x4, v0, v1, v2⟩)
        | (with_reducible assumption)
        | (obtain ⟨a0, a1, a2, a3, a4, a5, a6, a7⟩ : _ ∧ _ ∧ _ ∧ _ ∧ _ ∧ _ ∧ _ ∧ _ := by assumption
           with_reducible refine ⟨keep5 ?_ a0, keep5 ?_ a1, keep5 ?_ a2, keep5 ?_ a3, keep5 ?_ a4, keep5 ?_ a5, keep5 ?_ a6, keep5 ?_ a7⟩ <;> omega)
        | exact ⟨x0, x1, x2, x3, x4, v0, v1, v2⟩)
        (first
        | (go_at_call 40
           refine (wantimpl_hb (W0 := w2) (HB := by first | assumption | exact Lib.hid (Below.refl _ _) | exact Lib.hid (Below.refl _ _).drew) U _ _).mono ?_
           rintro e w' ⟨rfl, HBy⟩
           have HRy := Lib.hid (HR2.out.below HBy.out)
           obtain ⟨y0, y1, y2, y3, y4⟩ := HRy.out.at
           obtain ⟨s0, s1, s2, s3, s4⟩ := HRy.out.free
           obtain ⟨a0, a1, a2, a3, a4⟩ := (HX2.out.below HBy.out).at
           obtain ⟨a5, a6, a7⟩ := (HU2.out.below HBy.out).at
           have S1 := And.intro a0 (And.intro a1 (And.intro a2 (And.intro a3 (And.intro a4 (And.intro a5 (And.intro a6 a7))))))
           clear a0 a1 a2 a3 a4 a5 a6 a7)
        | (go_at_call 35
           refine (openimpl_hb (W0 := w2) (HB := by first | assumption | exact Lib.hid (Below.refl _ _) | exact Lib.hid (Below.refl _ _).drew) W _ _ _).mono ?_
           rintro e w' ⟨rfl, HBy⟩
           have HRy := Lib.hid (HR2.out.below HBy.out)
           obtain ⟨y0, y1, y2, y3, y4⟩ := HRy.out.at
           obtain ⟨s0, s1, s2, s3, s4⟩ := HRy.out.free
           obtain ⟨a0, a1, a2, a3, a4⟩ := (HX2.out.below HBy.out).at
           obtain ⟨a5, a6, a7⟩ := (HU2.out.below HBy.out).at
           have S1 := And.intro a0 (And.intro a1 (And.intro a2 (And.intro a3 (And.intro a4 (And.intro a5 (And.intro a6 a7))))))
           clear a0 a1 a2 a3 a4 a5 a6 a7)
        | (go_at_call 38
           refine (moveimpl_hb (W0 := w2) (HB := by first | assumption | exact Lib.hid (Below.refl _ _) | exact Lib.hid (Below.refl _ _).drew) W _).mono ?_
           rintro e w' ⟨rfl, HBy⟩
           have HRy := Lib.hid (HR2.out.below HBy.out)
           obtain ⟨y0, y1, y2, y3, y4⟩ := HRy.out.at
           obtain ⟨s0, s1, s2, s3, s4⟩ := HRy.out.free
           obtain ⟨a0, a1, a2, a3, a4⟩ := (HX2.out.below HBy.out).at
           obtain ⟨a5, a6, a7⟩ := (HU2.out.below HBy.out).at
           have S1 := And.intro a0 (And.intro a1 (And.intro a2 (And.intro a3 (And.intro a4 (And.intro a5 (And.intro a6 a7))))))
           clear a0 a1 a2 a3 a4 a5 a6 a7))
      all_goals
        go_wp2
        refine bodyPost_ret (v := .agg #[.int .i64 (moveW W (openZ W up down (wantZ U up x))).g, .int .i64 (moveW W (openZ W up down (wantZ U up x))).o, .int .i64 (moveW W (openZ W up down (wantZ U up x))).s, .int .i64 (moveW W (openZ W up down (wantZ U up x))).k, .int .i64 (moveW W (openZ W up down (wantZ U up x))).w]) (by simp [results, Try.results41, go_sem, y0, y1, y2, y3, y4]) rfl ?_
        rw [HS.out, HN.out]
        exact ⟨rfl, by (repeat' (first | (with_reducible exact Below.refl _ _) | (with_reducible refine Below.drew ?_) | (with_reducible refine Below.alloc ?_ ?_ _) | (with_reducible refine Below.setCell ?_ ?_ _) | (with_reducible refine Below.trans ?_ (HB2.out.mono ?_)) | (with_reducible refine Below.trans ?_ (HBy.out.mono ?_)) | (first | omega | (simp; omega) | (simp; done))))⟩
set_option maxHeartbeats 4000000 in
set_option maxRecDepth 100000 in
theorem steer_spec (W : Wr) (U : Ru) (up down x : Int) (w : World) : Calls Try.prog 60 #[.agg #[.int .i64 W.g, .int .i64 W.o, .int .i64 W.s, .int .i64 W.k, .int .i64 W.w], .agg #[.int .i64 U.l, .int .i64 U.h, .int .i64 U.f], .int .i64 up, .int .i64 down, .int .i64 x] w (GivesW w (steerW W U up down x)) := by
  have HB0 := Lib.hid ((((Below.refl w.heap.size w).alloc (Nat.le_refl _) (.cells #[.int .i64 W.g, .int .i64 W.o, .int .i64 W.s, .int .i64 W.k, .int .i64 W.w] 48)).alloc (by simp) (.cells #[.int .i64 U.l, .int .i64 U.h, .int .i64 U.f] 55)).alloc (by simp; omega) (.cells #[.int .i64 0, .int .i64 0, .int .i64 0, .int .i64 0, .int .i64 0] 48))
  have hx := ((Box5.new w (.int .i64 W.g) (.int .i64 W.o) (.int .i64 W.s) (.int .i64 W.k) (.int .i64 W.w) 48).alloc (.cells #[.int .i64 U.l, .int .i64 U.h, .int .i64 U.f] 55)).alloc (.cells #[.int .i64 0, .int .i64 0, .int .i64 0, .int .i64 0, .int .i64 0] 48)
  have hu := (Box.new (w.alloc (.cells #[.int .i64 W.g, .int .i64 W.o, .int .i64 W.s, .int .i64 W.k, .int .i64 W.w] 48)) (.int .i64 U.l) (.int .i64 U.h) (.int .i64 U.f) 55).alloc (.cells #[.int .i64 0, .int .i64 0, .int .i64 0, .int .i64 0, .int .i64 0] 48)
  have hr := Box5.new ((w.alloc (.cells #[.int .i64 W.g, .int .i64 W.o, .int .i64 W.s, .int .i64 W.k, .int .i64 W.w] 48)).alloc (.cells #[.int .i64 U.l, .int .i64 U.h, .int .i64 U.f] 55)) (.int .i64 0) (.int .i64 0) (.int .i64 0) (.int .i64 0) (.int .i64 0) 48
  simp only [World.size_alloc] at hu hr
  have HX0 := Lib.hid hx
  have HU0 := Lib.hid hu
  have HR0 := Lib.hid hr
  clear hx hu hr
  go_enter Try.func60, Try.ntmps60
  go_wp2_with fail
  refine (wok_spec W _).mono ?_
  rintro e w1 ⟨rfl, hb1⟩
  have HB1 := Lib.hid (HB0.out.trans (hb1.mono (by simp; omega)))
  have HX1 := Lib.hid (HX0.out.below hb1)
  have HU1 := Lib.hid (HU0.out.below hb1)
  have HR1 := Lib.hid (HR0.out.below hb1)
  have q1 : w.heap.size + 1 + 1 < w1.heap.size := by have := hb1.size; simp at this; omega
  clear hb1 HX0 HU0 HR0
  rcases steer_cases W U up down x with ⟨h, hs⟩ | ⟨h, h1, hs⟩ | ⟨h, h1, h2, hs⟩ | ⟨h, h1, h2, h3, hs⟩ | ⟨h, h1, h2, h3, h4, hs⟩ | ⟨h, h1, h2, h3, h4, hs⟩
  · have HS := Lib.hid hs
    rw [h]
    clear h hs
    obtain ⟨x0, x1, x2, x3, x4⟩ := HX1.out.at
    obtain ⟨y0, y1, y2, y3, y4⟩ := HR1.out.at
    obtain ⟨s0, s1, s2, s3, s4⟩ := HR1.out.free
    go_wp2
    refine bodyPost_ret (v := .agg #[.int .i64 W.g, .int .i64 W.o, .int .i64 W.s, .int .i64 W.k, .int .i64 W.w]) (by simp [results, Try.results60, go_sem, y0, y1, y2, y3, y4]) rfl ?_
    rw [HS.out]
    exact ⟨rfl, by (repeat' (first | (with_reducible exact Below.refl _ _) | (with_reducible refine Below.drew ?_) | (with_reducible refine Below.alloc ?_ ?_ _) | (with_reducible refine Below.setCell ?_ ?_ _) | (with_reducible refine Below.trans ?_ (HB1.out.mono ?_)) | (first | omega | (simp; omega) | (simp; done))))⟩
  · have HS := Lib.hid hs
    have H1 := Lib.hid h1
    have P := wOk_iff.1 h
    have g0 := P.g0; have g1 := P.g1
    rw [h]
    clear h hs h1 P
    obtain ⟨v0, v1, v2⟩ := HU1.out.at
    have ql : w.heap.size + 1 < w1.heap.size := by omega
    go_wp2_with fail
    refine (uok_spec U _).mono ?_
    rintro e w2 ⟨rfl, hb2⟩
    rw [H1.out]
    have HB2 := Lib.hid (HB1.out.trans (hb2.mono (by omega)))
    have HX2 := Lib.hid (HX1.out.below hb2)
    have HU2 := Lib.hid (HU1.out.below hb2)
    have HR2 := Lib.hid (HR1.out.below hb2)
    have q2 : w.heap.size + 1 + 1 < w2.heap.size := by have := hb2.size; omega
    have q2a : w.heap.size + 1 < w2.heap.size := by omega
    have q2b : w.heap.size < w2.heap.size := by omega
    clear hb2 v0 v1 v2 q1 ql HX1 HU1 HR1
    obtain ⟨x0, x1, x2, x3, x4⟩ := HX2.out.at
    obtain ⟨y0, y1, y2, y3, y4⟩ := HR2.out.at
    obtain ⟨s0, s1, s2, s3, s4⟩ := HR2.out.free
    go_wp2
    refine bodyPost_ret (v := .agg #[.int .i64 W.g, .int .i64 W.o, .int .i64 W.s, .int .i64 W.k, .int .i64 W.w]) (by simp [results, Try.results60, go_sem, y0, y1, y2, y3, y4]) rfl ?_
    rw [HS.out]
    exact ⟨rfl, by (repeat' (first | (with_reducible exact Below.refl _ _) | (with_reducible refine Below.drew ?_) | (with_reducible refine Below.alloc ?_ ?_ _) | (with_reducible refine Below.setCell ?_ ?_ _) | (with_reducible refine Below.trans ?_ (HB2.out.mono ?_)) | (first | omega | (simp; omega) | (simp; done))))⟩
  · have HS := Lib.hid hs
    have H1 := Lib.hid h1
    have P := wOk_iff.1 h
    have g0 := P.g0; have g1 := P.g1
    rw [h]
    clear h hs h1 P
    obtain ⟨v0, v1, v2⟩ := HU1.out.at
    have ql : w.heap.size + 1 < w1.heap.size := by omega
    go_wp2_with fail
    refine (uok_spec U _).mono ?_
    rintro e w2 ⟨rfl, hb2⟩
    rw [H1.out]
    have HB2 := Lib.hid (HB1.out.trans (hb2.mono (by omega)))
    have HX2 := Lib.hid (HX1.out.below hb2)
    have HU2 := Lib.hid (HU1.out.below hb2)
    have HR2 := Lib.hid (HR1.out.below hb2)
    have q2 : w.heap.size + 1 + 1 < w2.heap.size := by have := hb2.size; omega
    have q2a : w.heap.size + 1 < w2.heap.size := by omega
    have q2b : w.heap.size < w2.heap.size := by omega
    clear hb2 v0 v1 v2 q1 ql HX1 HU1 HR1
    obtain ⟨x0, x1, x2, x3, x4⟩ := HX2.out.at
    obtain ⟨y0, y1, y2, y3, y4⟩ := HR2.out.at
    obtain ⟨s0, s1, s2, s3, s4⟩ := HR2.out.free
    go_wp2_with (first | (go_at_call 106; refine (in_spec _ _ _ _).mono ?_; rintro e w' ⟨rfl, rfl⟩) | (go_at_call 107; refine (lev_spec _ _).mono ?_; rintro e w' ⟨rfl, rfl⟩))
    refine bodyPost_ret (v := .agg #[.int .i64 W.g, .int .i64 W.o, .int .i64 W.s, .int .i64 W.k, .int .i64 W.w]) (by simp [results, Try.results60, go_sem, y0, y1, y2, y3, y4]) rfl ?_
    rw [HS.out]
    exact ⟨rfl, by (repeat' (first | (with_reducible exact Below.refl _ _) | (with_reducible refine Below.drew ?_) | (with_reducible refine Below.alloc ?_ ?_ _) | (with_reducible refine Below.setCell ?_ ?_ _) | (with_reducible refine Below.trans ?_ (HB2.out.mono ?_)) | (first | omega | (simp; omega) | (simp; done))))⟩
  · have HS := Lib.hid hs
    have H1 := Lib.hid h1
    have P := wOk_iff.1 h
    have g0 := P.g0; have g1 := P.g1
    rw [h]
    clear h hs h1 P
    obtain ⟨v0, v1, v2⟩ := HU1.out.at
    have ql : w.heap.size + 1 < w1.heap.size := by omega
    go_wp2_with fail
    refine (uok_spec U _).mono ?_
    rintro e w2 ⟨rfl, hb2⟩
    rw [H1.out]
    have HB2 := Lib.hid (HB1.out.trans (hb2.mono (by omega)))
    have HX2 := Lib.hid (HX1.out.below hb2)
    have HU2 := Lib.hid (HU1.out.below hb2)
    have HR2 := Lib.hid (HR1.out.below hb2)
    have q2 : w.heap.size + 1 + 1 < w2.heap.size := by have := hb2.size; omega
    have q2a : w.heap.size + 1 < w2.heap.size := by omega
    have q2b : w.heap.size < w2.heap.size := by omega
    clear hb2 v0 v1 v2 q1 ql HX1 HU1 HR1
    obtain ⟨x0, x1, x2, x3, x4⟩ := HX2.out.at
    obtain ⟨y0, y1, y2, y3, y4⟩ := HR2.out.at
    obtain ⟨s0, s1, s2, s3, s4⟩ := HR2.out.free
    go_wp2_with (first | (go_at_call 106; refine (in_spec _ _ _ _).mono ?_; rintro e w' ⟨rfl, rfl⟩) | (go_at_call 107; refine (lev_spec _ _).mono ?_; rintro e w' ⟨rfl, rfl⟩))
    refine bodyPost_ret (v := .agg #[.int .i64 W.g, .int .i64 W.o, .int .i64 W.s, .int .i64 W.k, .int .i64 W.w]) (by simp [results, Try.results60, go_sem, y0, y1, y2, y3, y4]) rfl ?_
    rw [HS.out]
    exact ⟨rfl, by (repeat' (first | (with_reducible exact Below.refl _ _) | (with_reducible refine Below.drew ?_) | (with_reducible refine Below.alloc ?_ ?_ _) | (with_reducible refine Below.setCell ?_ ?_ _) | (with_reducible refine Below.trans ?_ (HB2.out.mono ?_)) | (first | omega | (simp; omega) | (simp; done))))⟩
  · have HS := Lib.hid hs
    have H1 := Lib.hid h1
    have P := wOk_iff.1 h
    have g0 := P.g0; have g1 := P.g1
    rw [h]
    clear h hs h1 P
    obtain ⟨v0, v1, v2⟩ := HU1.out.at
    have ql : w.heap.size + 1 < w1.heap.size := by omega
    go_wp2_with fail
    refine (uok_spec U _).mono ?_
    rintro e w2 ⟨rfl, hb2⟩
    rw [H1.out]
    have HB2 := Lib.hid (HB1.out.trans (hb2.mono (by omega)))
    have HX2 := Lib.hid (HX1.out.below hb2)
    have HU2 := Lib.hid (HU1.out.below hb2)
    have HR2 := Lib.hid (HR1.out.below hb2)
    have q2 : w.heap.size + 1 + 1 < w2.heap.size := by have := hb2.size; omega
    have q2a : w.heap.size + 1 < w2.heap.size := by omega
    have q2b : w.heap.size < w2.heap.size := by omega
    clear hb2 v0 v1 v2 q1 ql HX1 HU1 HR1
    obtain ⟨x0, x1, x2, x3, x4⟩ := HX2.out.at
    obtain ⟨y0, y1, y2, y3, y4⟩ := HR2.out.at
    obtain ⟨s0, s1, s2, s3, s4⟩ := HR2.out.free
    go_wp2_with (first | (go_at_call 106; refine (in_spec _ _ _ _).mono ?_; rintro e w' ⟨rfl, rfl⟩) | (go_at_call 107; refine (lev_spec _ _).mono ?_; rintro e w' ⟨rfl, rfl⟩))
    refine bodyPost_ret (v := .agg #[.int .i64 W.g, .int .i64 W.o, .int .i64 W.s, .int .i64 W.k, .int .i64 W.w]) (by simp [results, Try.results60, go_sem, y0, y1, y2, y3, y4]) rfl ?_
    rw [HS.out]
    exact ⟨rfl, by (repeat' (first | (with_reducible exact Below.refl _ _) | (with_reducible refine Below.drew ?_) | (with_reducible refine Below.alloc ?_ ?_ _) | (with_reducible refine Below.setCell ?_ ?_ _) | (with_reducible refine Below.trans ?_ (HB2.out.mono ?_)) | (first | omega | (simp; omega) | (simp; done))))⟩
  · have HS := Lib.hid hs
    have H1 := Lib.hid h1
    have P := wOk_iff.1 h
    have g0 := P.g0; have g1 := P.g1
    rw [h]
    clear h hs h1 P
    obtain ⟨v0, v1, v2⟩ := HU1.out.at
    have ql : w.heap.size + 1 < w1.heap.size := by omega
    go_wp2_with fail
    refine (uok_spec U _).mono ?_
    rintro e w2 ⟨rfl, hb2⟩
    rw [H1.out]
    have HB2 := Lib.hid (HB1.out.trans (hb2.mono (by omega)))
    have HX2 := Lib.hid (HX1.out.below hb2)
    have HU2 := Lib.hid (HU1.out.below hb2)
    have HR2 := Lib.hid (HR1.out.below hb2)
    have q2 : w.heap.size + 1 + 1 < w2.heap.size := by have := hb2.size; omega
    have q2a : w.heap.size + 1 < w2.heap.size := by omega
    have q2b : w.heap.size < w2.heap.size := by omega
    clear hb2 v0 v1 v2 q1 ql HX1 HU1 HR1
    obtain ⟨x0, x1, x2, x3, x4⟩ := HX2.out.at
    obtain ⟨v0, v1, v2⟩ := HU2.out.at
    by_cases hf : U.f ≤ up
    · have HN := Lib.hid (show steerN W U up down x = 10 * W.g by unfold steerN; rw [if_pos hf])
      obtain ⟨y0, y1, y2, y3, y4⟩ := HR2.out.at
      obtain ⟨s0, s1, s2, s3, s4⟩ := HR2.out.free
      go_wp2_with (first | (go_at_call 106; refine (in_spec _ _ _ _).mono ?_; rintro e w' ⟨rfl, rfl⟩) | (go_at_call 107; refine (lev_spec _ _).mono ?_; rintro e w' ⟨rfl, rfl⟩))
      refine (movespec_hb (W0 := w2) (HB := Lib.hid (Below.refl _ _)) W _).mono ?_
      rintro e w' ⟨rfl, HBy⟩
      have HRy := Lib.hid (HR2.out.below HBy.out)
      clear y0 y1 y2 y3 y4 s0 s1 s2 s3 s4
      obtain ⟨y0, y1, y2, y3, y4⟩ := HRy.out.at
      obtain ⟨s0, s1, s2, s3, s4⟩ := HRy.out.free
      all_goals
        go_wp2
        refine bodyPost_ret (v := .agg #[.int .i64 (moveW W (10 * W.g)).g, .int .i64 (moveW W (10 * W.g)).o, .int .i64 (moveW W (10 * W.g)).s, .int .i64 (moveW W (10 * W.g)).k, .int .i64 (moveW W (10 * W.g)).w]) (by simp [results, Try.results60, go_sem, y0, y1, y2, y3, y4]) rfl ?_
        rw [HS.out, HN.out]
        exact ⟨rfl, by (repeat' (first | (with_reducible exact Below.refl _ _) | (with_reducible refine Below.drew ?_) | (with_reducible refine Below.alloc ?_ ?_ _) | (with_reducible refine Below.setCell ?_ ?_ _) | (with_reducible refine Below.trans ?_ (HB2.out.mono ?_)) | (with_reducible refine Below.trans ?_ (HBy.out.mono ?_)) | (first | omega | (simp; omega) | (simp; done))))⟩
    · have hf' : up < U.f := by omega
      have HN := Lib.hid (show steerN W U up down x = openZ W up down (wantZ U up x) by unfold steerN; rw [if_neg hf])
      clear hf
      go_wp2_with (first | (go_at_call 106; refine (in_spec _ _ _ _).mono ?_; rintro e w' ⟨rfl, rfl⟩) | (go_at_call 107; refine (lev_spec _ _).mono ?_; rintro e w' ⟨rfl, rfl⟩))
      go_region_held3 (fun w' => w'.cell? ⟨w.heap.size, 0, none⟩ = some (.int .i64 W.g) ∧ w'.cell? ⟨w.heap.size, 1, none⟩ = some (.int .i64 W.o) ∧ w'.cell? ⟨w.heap.size, 2, none⟩ = some (.int .i64 W.s) ∧ w'.cell? ⟨w.heap.size, 3, none⟩ = some (.int .i64 W.k) ∧ w'.cell? ⟨w.heap.size, 4, none⟩ = some (.int .i64 W.w) ∧ w'.cell? ⟨w.heap.size + 1, 0, none⟩ = some (.int .i64 U.l) ∧ w'.cell? ⟨w.heap.size + 1, 1, none⟩ = some (.int .i64 U.h) ∧ w'.cell? ⟨w.heap.size + 1, 2, none⟩ = some (.int .i64 U.f))
        (first
        | (with_reducible exact ⟨x0, x1, x2, x3, x4, v0, v1, v2⟩)
        | (with_reducible assumption)
        | (obtain ⟨a0, a1, a2, a3, a4, a5, a6, a7⟩ : _ ∧ _ ∧ _ ∧ _ ∧ _ ∧ _ ∧ _ ∧ _ := by assumption
           with_reducible refine ⟨keep5 ?_ a0, keep5 ?_ a1, keep5 ?_ a2, keep5 ?_ a3, keep5 ?_ a4, keep5 ?_ a5, keep5 ?_ a6, keep5 ?_ a7⟩ <;> omega)
        | exact ⟨x0, x1, x2, x3, x4, v0, v1, v2⟩)
        (first
        | (go_at_call 59
           refine (wantspec_hb (W0 := w2) (HB := by first | assumption | exact Lib.hid (Below.refl _ _) | exact Lib.hid (Below.refl _ _).drew) U _ _).mono ?_
           rintro e w' ⟨rfl, HBy⟩
           have HRy := Lib.hid (HR2.out.below HBy.out)
           obtain ⟨y0, y1, y2, y3, y4⟩ := HRy.out.at
           obtain ⟨s0, s1, s2, s3, s4⟩ := HRy.out.free
           obtain ⟨a0, a1, a2, a3, a4⟩ := (HX2.out.below HBy.out).at
           obtain ⟨a5, a6, a7⟩ := (HU2.out.below HBy.out).at
           have S1 := And.intro a0 (And.intro a1 (And.intro a2 (And.intro a3 (And.intro a4 (And.intro a5 (And.intro a6 a7))))))
           clear a0 a1 a2 a3 a4 a5 a6 a7)
        | (go_at_call 56
           refine (openspec_hb (W0 := w2) (HB := by first | assumption | exact Lib.hid (Below.refl _ _) | exact Lib.hid (Below.refl _ _).drew) W _ _ _).mono ?_
           rintro e w' ⟨rfl, HBy⟩
           have HRy := Lib.hid (HR2.out.below HBy.out)
           obtain ⟨y0, y1, y2, y3, y4⟩ := HRy.out.at
           obtain ⟨s0, s1, s2, s3, s4⟩ := HRy.out.free
           obtain ⟨a0, a1, a2, a3, a4⟩ := (HX2.out.below HBy.out).at
           obtain ⟨a5, a6, a7⟩ := (HU2.out.below HBy.out).at
           have S1 := And.intro a0 (And.intro a1 (And.intro a2 (And.intro a3 (And.intro a4 (And.intro a5 (And.intro a6 a7))))))
           clear a0 a1 a2 a3 a4 a5 a6 a7)
        | (go_at_call 54
           refine (movespec_hb (W0 := w2) (HB := by first | assumption | exact Lib.hid (Below.refl _ _) | exact Lib.hid (Below.refl _ _).drew) W _).mono ?_
           rintro e w' ⟨rfl, HBy⟩
           have HRy := Lib.hid (HR2.out.below HBy.out)
           obtain ⟨y0, y1, y2, y3, y4⟩ := HRy.out.at
           obtain ⟨s0, s1, s2, s3, s4⟩ := HRy.out.free
           obtain ⟨a0, a1, a2, a3, a4⟩ := (HX2.out.below HBy.out).at
           obtain ⟨a5, a6, a7⟩ := (HU2.out.below HBy.out).at
           have S1 := And.intro a0 (And.intro a1 (And.intro a2 (And.intro a3 (And.intro a4 (And.intro a5 (And.intro a6 a7))))))
           clear a0 a1 a2 a3 a4 a5 a6 a7))
      all_goals
        go_wp2
        refine bodyPost_ret (v := .agg #[.int .i64 (moveW W (openZ W up down (wantZ U up x))).g, .int .i64 (moveW W (openZ W up down (wantZ U up x))).o, .int .i64 (moveW W (openZ W up down (wantZ U up x))).s, .int .i64 (moveW W (openZ W up down (wantZ U up x))).k, .int .i64 (moveW W (openZ W up down (wantZ U up x))).w]) (by simp [results, Try.results60, go_sem, y0, y1, y2, y3, y4]) rfl ?_
        rw [HS.out, HN.out]
        exact ⟨rfl, by (repeat' (first | (with_reducible exact Below.refl _ _) | (with_reducible refine Below.drew ?_) | (with_reducible refine Below.alloc ?_ ?_ _) | (with_reducible refine Below.setCell ?_ ?_ _) | (with_reducible refine Below.trans ?_ (HB2.out.mono ?_)) | (with_reducible refine Below.trans ?_ (HBy.out.mono ?_)) | (first | omega | (simp; omega) | (simp; done))))⟩
end Go.Proofs.Ytolifdpbkdeeeaa.C1
