/-
  For every input the Go function 'laws.FnGateSteps' returns true, and each argument reads afterwards as it read before. No further condition.
-/
import Derived.Test.YtolifdpbkdeeeaaDWr
import Derived.Test.YtolifdpbkdeeeaaLift
import Derived.Test.YtolifdpbkdeeeaaOpen
import Derived.ChangeMaps5
namespace Go.Proofs.Ytolifdpbkdeeeaa.fnGateSteps
open Go.Proofs.Ytolifdpbkdeeeaa.C1 Go.Proofs.Ytolifdpbkdeeeaa.Lift Go.Proofs.Ytolifdpbkdeeeaa.Opened
open Go.ChangeShapes Go.WideShapes Go.ChangeAt Go.RowKit Go.ChangeMaps
set_option linter.unusedVariables false

structure Veil (p : Prop) : Prop where
  out : p
theorem vl {p : Prop} (h : p) : Veil p := ⟨h⟩
def WBox (wx : World) (b : Nat) (R : Wr) : Prop := Box5 wx b (.int .i64 R.g) (.int .i64 R.o) (.int .i64 R.s) (.int .i64 R.k) (.int .i64 R.w) 48
theorem WBox.fill {w : World} {b : Nat} {R : Wr} {v0 v1 v2 v3 v4 : Value} (h : Box5 w b v0 v1 v2 v3 v4 48) : WBox (((((w.setCell ⟨b, 0, none⟩ (.int .i64 R.g)).setCell ⟨b, 1, none⟩ (.int .i64 R.o)).setCell ⟨b, 2, none⟩ (.int .i64 R.s)).setCell ⟨b, 3, none⟩ (.int .i64 R.k)).setCell ⟨b, 4, none⟩ (.int .i64 R.w)) b R := by
  unfold WBox Box5 at *
  simp [World.setCell, Array.getElem?_modify, h]
theorem move_with {W : Wr} (h : WD W) {o n : Int} (o0 : 0 ≤ o) (o1 : o ≤ 10 * W.g) (n0 : 0 ≤ n) (n1 : n ≤ 10 * W.g) : ∃ o', moveW ⟨W.g, o, W.s, W.k, W.w⟩ n = ⟨W.g, o', W.s, W.k, W.w⟩ ∧ 0 ≤ o' ∧ o' ≤ 10 * W.g ∧ o' - o ≤ W.s ∧ -W.s ≤ o' - o ∧ (o = n → o' = o) ∧ (∀ d : Int, 0 ≤ d → o - n ≤ d + 1 → n - o ≤ d + 1 → o' - n ≤ d ∧ n - o' ≤ d) ∧ (o < n → o < o') ∧ wOk ⟨W.g, o', W.s, W.k, W.w⟩ = true := by
  have P := h.ok
  have s0 := P.s0
  refine ⟨max (o - W.s) (min n (o + W.s)), ?_, by omega, by omega, by omega, by omega, by omega, fun d h0 h1 h2 => by omega, by omega, ?_⟩
  · rw [moveW_yes (W := ⟨W.g, o, W.s, W.k, W.w⟩) (moveB_iff.2 ⟨⟨P.g0, P.g1, o0, o1, P.s0, P.s1, P.k0, P.k1, P.w0, P.w1⟩, n0, n1⟩)]
    rfl
  · exact wOk_iff.2 ⟨P.g0, P.g1, by show 0 ≤ max (o - W.s) (min n (o + W.s)); omega, by show max (o - W.s) (min n (o + W.s)) ≤ 10 * W.g; omega, P.s0, P.s1, P.k0, P.k1, P.w0, P.w1⟩
theorem want_at {U : Ru} (h : UD U) : (∀ a : Int, 0 ≤ a → a ≤ 255 → 0 ≤ wantZ U a 1000 ∧ wantZ U a 1000 ≤ 2000) ∧ wantZ U U.l 1000 = 0 ∧ wantZ U U.h 1000 = 1000 := by
  obtain ⟨l0, l1, h0, h1, f0, f1⟩ := h
  have hb : ∀ a : Int, 0 ≤ a → a ≤ 255 → wantB U a 1000 = true := fun a a0 a1 => wantB_iff.2 ⟨⟨l0, h0, f0, by omega⟩, ⟨by omega, by omega⟩, ⟨a0, by omega⟩⟩
  refine ⟨fun a a0 a1 => ?_, ?_, ?_⟩
  · unfold wantZ
    rw [hb a a0 a1]
    by_cases hl : U.l < a
    · rw [if_pos ⟨rfl, hl⟩]
      have : 0 ≤ 1000 * (a - U.l) / (U.h - U.l) := Int.ediv_nonneg (by omega) (by omega)
      omega
    · rw [if_neg (fun hh => hl hh.2)]; omega
  · unfold wantZ
    rw [if_neg (fun hh => by have := hh.2; omega)]
  · unfold wantZ
    rw [if_pos ⟨hb U.h (by omega) (by omega), h0⟩, Int.mul_ediv_cancel _ (by omega : U.h - U.l ≠ 0)]
    decide
set_option maxRecDepth 100000 in
set_option maxHeartbeats 4000000 in
theorem walk (A : Option Addr) (n cap : Nat) (f : Nat → Int) (w : World) (hn : n ≤ 9223372036854775807) (hs : SrcB w A n f) :
    Calls Try.prog 7 #[.slice A n cap] w fun e w' => e = .returned (.bool true) ∧ Below w.heap.size w w' := by
  by_cases hbig : 1048576 < n
  · go_enter Try.func7, Try.ntmps7
    go_wp2_with (go_at_call 18; refine (big_yes _ _ _ _ hbig).mono ?_; rintro e w' ⟨rfl, rfl⟩)
    go_ret
    exact ⟨rfl, Below.refl _ _⟩
  have hl : n ≤ 1048576 := by omega
  have HS := vl hs
  clear hs hbig
  go_enter Try.func7, Try.ntmps7
  go_wp2_with fail
  refine (big_no _ _ _ _ hl).mono ?_; rintro e w' ⟨rfl, rfl⟩
  go_wp2_with fail
  refine (drawweir _ _ _ f _ hl HS.out).mono ?_
  rintro e w1 ⟨W, rfl, hW, hb1⟩
  have HB1 := vl (hb1.alloc hb1.size (.cells #[.int .i64 W.g, .int .i64 W.o, .int .i64 W.s, .int .i64 W.k, .int .i64 W.w] 48))
  have HX1 : Veil (WBox (w1.alloc (.cells #[.int .i64 W.g, .int .i64 W.o, .int .i64 W.s, .int .i64 W.k, .int .i64 W.w] 48)) w1.heap.size W) := vl (Box5.new w1 (.int .i64 W.g) (.int .i64 W.o) (.int .i64 W.s) (.int .i64 W.k) (.int .i64 W.w) 48)
  have hbl : w.heap.size ≤ w1.heap.size := hb1.size
  have g0 := hW.ok.g0; have g1 := hW.g; have o0 := hW.ok.o0; have o1 := hW.ok.o1; have s0 := hW.ok.s0; have s1 := hW.s
  have HW := vl hW
  obtain ⟨u00, u01⟩ := atZ_bd HS.out 0
  obtain ⟨u10, u11⟩ := atZ_bd HS.out 1
  clear hb1 hW
  go_wp2
  have a1 : IntKind.i64.wrap (10 * W.g) = 10 * W.g := IntWalk.i64_in _ (by omega)
  have a2 : IntKind.i64.wrap (10 * W.g + 1) = 10 * W.g + 1 := IntWalk.i64_in _ (by omega)
  have a3 : (10 * W.g + 1 == 0) = false := by simp; omega
  have a4 : (atZ n f 0).tmod (10 * W.g + 1) = atZ n f 0 % (10 * W.g + 1) := Int.tmod_eq_emod_of_nonneg u00
  have q0 := Int.emod_nonneg (atZ n f 0) (by omega : 10 * W.g + 1 ≠ 0)
  have q1 := Int.emod_lt_of_pos (atZ n f 0) (by omega : 0 < 10 * W.g + 1)
  go_quiet ((go_at_call 20; exact quiet_l (at_law _ _ _ _ _ f hl (by omega) (by omega) (HS.out.below (HB1.out.drewN' _)))))
  clear a1 a2 a3 a4
  generalize atZ n f 0 % (10 * W.g + 1) = want at q0 q1 ⊢
  obtain ⟨b, hbn⟩ : ∃ b, b = w1.heap.size := ⟨_, rfl⟩
  rw [← hbn] at HX1 hbl ⊢
  obtain ⟨W1, hW1⟩ : ∃ W1, W1 = (w1.alloc (.cells #[.int .i64 W.g, .int .i64 W.o, .int .i64 W.s, .int .i64 W.k, .int .i64 W.w] 48)).drewN nq := ⟨_, rfl⟩
  have HX2 : Veil (WBox W1 b W) := by rw [hW1]; exact HX1
  have HB2 : Veil (Below w.heap.size w W1) := by rw [hW1]; exact vl (HB1.out.drewN' _)
  rw [← hW1]
  clear HX1 HB1 hbn hW1
  go_wp2
  go_loopw [5] (fun i wr => ∃ (k : Nat) (o : Int), i = .int .i64 k ∧ k ≤ 90 ∧ 0 ≤ o ∧ o ≤ 10 * W.g ∧ (∀ d : Int, 0 ≤ d → 90 - k ≤ d → o - want ≤ d ∧ want - o ≤ d) ∧ Veil (WBox wr b ⟨W.g, o, W.s, W.k, W.w⟩) ∧ Veil (Below w.heap.size w wr)) (fun i _ => 90 - (intOf i).toNat)
  case atStart => exact ⟨0, W.o, rfl, by omega, o0, o1, fun d h0 h1 => by omega, HX2, HB2⟩
  case round =>
    obtain ⟨k, o, rfl, hk, k0, k1, hd, HX, HB⟩ := hrel
    obtain ⟨x0, x1, x2, x3, x4⟩ := Box5.at HX.out
    by_cases hlt : k < 90
    · obtain ⟨o', hm, p0, p1, p2, p3, p4, p5, p6, p7⟩ := move_with HW.out k0 k1 q0 (by omega : want ≤ 10 * W.g)
      have HM := vl hm
      have HP5 := vl (p5 (90 - (k + 1)) (by omega) (hd (90 - (k + 1) + 1) (by omega) (by omega)).1 (hd (90 - (k + 1) + 1) (by omega) (by omega)).2)
      have HP7 := vl p7
      have HP4 := vl p4
      clear hm p5 p6 p7 hd p4
      go_wp2_with fail
      refine (move_impl ⟨W.g, o, W.s, W.k, W.w⟩ want _).mono ?_
      rintro e w2 ⟨rfl, hb2⟩
      rw [HM.out]
      have HX2 := vl ((Box5.below HX.out hb2).alloc (.cells #[.int .i64 W.g, .int .i64 o', .int .i64 W.s, .int .i64 W.k, .int .i64 W.w] 48))
      have HB2 := vl (HB.out.trans (hb2.mono HB.out.size))
      have HB3 := vl (HB2.out.alloc HB2.out.size (.cells #[.int .i64 W.g, .int .i64 o', .int .i64 W.s, .int .i64 W.k, .int .i64 W.w] 48))
      have HY := vl (Box5.new w2 (.int .i64 W.g) (.int .i64 o') (.int .i64 W.s) (.int .i64 W.k) (.int .i64 W.w) 48)
      have hbw : b < w2.heap.size := Box5.lt (Box5.below HX.out hb2)
      clear hb2 x0 x1 x2 x3 x4
      obtain ⟨x0, x1, x2, x3, x4⟩ := HX2.out.at
      obtain ⟨y0, y1, y2, y3, y4⟩ := HY.out.at
      go_wp2_with fail
      refine (wok_impl ⟨W.g, o', W.s, W.k, W.w⟩ _).mono ?_
      rintro e w3 ⟨rfl, hb3⟩
      rw [HP7.out]
      have HX4 := vl (HX2.out.below hb3)
      have HY4 := vl (HY.out.below hb3)
      have HB4 := vl (HB3.out.trans (hb3.mono HB3.out.size))
      clear hb3 x0 x1 x2 x3 x4 y0 y1 y2 y3 y4
      obtain ⟨x0, x1, x2, x3, x4⟩ := HX4.out.at
      obtain ⟨y0, y1, y2, y3, y4⟩ := HY4.out.at
      obtain ⟨z0, z1, z2, z3, z4⟩ := HX4.out.free
      have HF := vl (WBox.fill (R := ⟨W.g, o', W.s, W.k, W.w⟩) HX4.out)
      have HB5 := vl (((((HB4.out.setCell (p := ⟨b, 0, none⟩) hbl (.int .i64 W.g)).setCell (p := ⟨b, 1, none⟩) hbl (.int .i64 o')).setCell (p := ⟨b, 2, none⟩) hbl (.int .i64 W.s)).setCell (p := ⟨b, 3, none⟩) hbl (.int .i64 W.k)).setCell (p := ⟨b, 4, none⟩) hbl (.int .i64 W.w))
      by_cases ho : o = want
      · have e1 : (o == want) = true := by simp [ho]
        have HO := HP4.out ho
        have e2 : (o' - o == 0) = true := by simp [HO]
        have e3 : (o' - o != 0) = false := by simp [HO]
        clear ho HO
        go_wp2
        go_roundw
        case rel => exact ⟨k + 1, o', by go_num, by omega, p0, p1, fun d h0 h1 => by have := HP5.out; omega, HF, HB5⟩
        case measure => simp [intOf]; omega
      · have e1 : (o == want) = false := by simp [ho]
        clear ho
        go_wp2
        go_roundw
        case rel => exact ⟨k + 1, o', by go_num, by omega, p0, p1, fun d h0 h1 => by have := HP5.out; omega, HF, HB5⟩
        case measure => simp [intOf]; omega
    · have ho : o = want := by have := hd 0 (by omega) (by omega); omega
      subst ho
      go_wp2_with fail
      refine (drawrule _ _ _ f _ hl (HS.out.below HB.out)).mono ?_
      rintro e w2 ⟨U, rfl, hU, hb2⟩
      have HX2 := vl ((Box5.below HX.out hb2).alloc (.cells #[.int .i64 U.l, .int .i64 U.h, .int .i64 U.f] 55))
      have HU2 := vl (Box.new w2 (.int .i64 U.l) (.int .i64 U.h) (.int .i64 U.f) 55)
      have HB2 := vl ((HB.out.trans (hb2.mono HB.out.size)).alloc (by have := HB.out.size; have := hb2.size; omega) (.cells #[.int .i64 U.l, .int .i64 U.h, .int .i64 U.f] 55))
      obtain ⟨hl0, hl1, hh0, hh1, hf0, hf1⟩ := hU
      obtain ⟨ha, hz, h1k⟩ := want_at ⟨hl0, hl1, hh0, hh1, hf0, hf1⟩
      have HA := vl ha
      have HZ := vl hz
      have H1K := vl h1k
      clear hb2 ha hz h1k x0 x1 x2 x3 x4
      go_wp2
      have hbx := Box5.lt HX2.out
      have hgu : 1 ≤ W.g ∧ W.g ≤ 4 := ⟨g0, g1⟩
      obtain ⟨v0, v1, v2⟩ := HU2.out.at
      have HB3 := vl (HS.out.below HB2.out)
      generalize hW2 : w2.alloc (.cells #[.int .i64 U.l, .int .i64 U.h, .int .i64 U.f] 55) = W2 at *
      have q2 : w2.heap.size < W2.heap.size := HU2.out.lt
      clear hW2
      go_region_held3 (fun w' => w'.cell? ⟨w2.heap.size, 0, none⟩ = some (.int .i64 U.l) ∧ w'.cell? ⟨w2.heap.size, 1, none⟩ = some (.int .i64 U.h) ∧ w'.cell? ⟨w2.heap.size, 2, none⟩ = some (.int .i64 U.f))
        (first | (with_reducible exact ⟨v0, v1, v2⟩) | (with_reducible assumption) | exact ⟨v0, v1, v2⟩)
        (first
          | (go_at_call 20
             refine (at_law _ _ _ _ _ f hl (by omega) (by omega) (HS.out.below (by first | exact HB2.out | exact HB2.out.drew))).mono ?_
             rintro e w' ⟨rfl, rfl⟩)
          | (go_at_call 40
             refine (wantimpl_hb (W0 := W2) (HB := Lib.hid (by first | exact Below.refl _ _ | exact (Below.refl _ _).drew)) U _ _).mono ?_
             rintro e w3 ⟨rfl, HBy⟩
             have S1 := (HU2.out.below HBy.out).at))
      obtain ⟨o2, hm2, r0, r1, r2, r3, r4, r5, r6, r7⟩ := move_with HW.out k0 k1 (by omega : 0 ≤ 10 * W.g) (Int.le_refl _)
      have HST := vl (show steerW ⟨W.g, o, W.s, W.k, W.w⟩ U U.f 0 1000 = ⟨W.g, o2, W.s, W.k, W.w⟩ by
        have P := HW.out.ok
        have hb : steerB ⟨W.g, o, W.s, W.k, W.w⟩ U U.f 0 1000 = true := by
          unfold steerB
          rw [(wOk_iff (W := ⟨W.g, o, W.s, W.k, W.w⟩)).2 ⟨P.g0, P.g1, k0, k1, P.s0, P.s1, P.k0, P.k1, P.w0, P.w1⟩, uOk_iff.2 ⟨hl0, hh0, hf0, by omega⟩, inB_yes (by omega) (by omega), inB_yes (by omega) (by omega), inB_yes (by omega) (by omega)]
          rfl
        unfold steerW
        rw [if_pos hb]
        unfold steerN
        rw [if_pos (Int.le_refl _)]
        exact hm2)
      have HUK := vl (uOk_iff.2 ⟨hl0, hh0, hf0, by omega⟩)
      have hop : o < o2 ∨ o = 10 * W.g := by
        rcases Int.lt_or_le o (10 * W.g) with h | h
        · exact Or.inl (r6 h)
        · exact Or.inr (by omega)
      obtain ⟨ff, hff⟩ : ∃ z, wantZ U (atZ n f 1) 1000 = z := ⟨_, rfl⟩
      have hfb := HA.out (atZ n f 1) u10 u11
      rw [hff] at hfb
      obtain ⟨hf5, hf6⟩ := hfb
      have HFF := vl hff
      have HX3 := vl (HX2.out.below HBy.out)
      have HU3 := vl (HU2.out.below HBy.out)
      have HB4 := vl (HB2.out.trans (HBy.out.mono HB2.out.size))
      rw [HFF.out]
      clear hd hm2 r4 r5 r6 r7 hff v0 v1 v2
      obtain ⟨x0, x1, x2, x3, x4⟩ := HX3.out.at
      obtain ⟨t0, t1, t2⟩ := HU3.out.at
      go_wp2_with fail
      refine (steer_impl ⟨W.g, o, W.s, W.k, W.w⟩ U U.f 0 1000 _).mono ?_
      rintro e w4 ⟨rfl, hb4⟩
      rw [HST.out]
      have HX5 := vl ((HX3.out.below hb4).alloc (.cells #[.int .i64 W.g, .int .i64 o2, .int .i64 W.s, .int .i64 W.k, .int .i64 W.w] 48))
      have HU5 := vl ((HU3.out.below hb4).alloc (.cells #[.int .i64 W.g, .int .i64 o2, .int .i64 W.s, .int .i64 W.k, .int .i64 W.w] 48))
      have HG5 := vl (Box5.new w4 (.int .i64 W.g) (.int .i64 o2) (.int .i64 W.s) (.int .i64 W.k) (.int .i64 W.w) 48)
      have HB5 := vl ((HB4.out.trans (hb4.mono HB4.out.size)).alloc (by have := HB4.out.size; have := hb4.size; omega) (.cells #[.int .i64 W.g, .int .i64 o2, .int .i64 W.s, .int .i64 W.k, .int .i64 W.w] 48))
      have q4 : w2.heap.size < w4.heap.size := (HU3.out.below hb4).lt
      have q5 : b < w4.heap.size := (HX3.out.below hb4).lt
      clear hb4 x0 x1 x2 x3 x4 t0 t1 t2
      obtain ⟨x0, x1, x2, x3, x4⟩ := HX5.out.at
      obtain ⟨t0, t1, t2⟩ := HU5.out.at
      obtain ⟨y0, y1, y2, y3, y4⟩ := HG5.out.at
      go_wp2_with fail
      refine (uok_impl U _).mono ?_
      rintro e w6 ⟨rfl, hb6⟩
      rw [HUK.out]
      have HX6 := vl (HX5.out.below hb6)
      have HU6 := vl (HU5.out.below hb6)
      have HG6 := vl (HG5.out.below hb6)
      have HB6 := vl (HB5.out.trans (hb6.mono HB5.out.size))
      clear hb6 x0 x1 x2 x3 x4 t0 t1 t2 y0 y1 y2 y3 y4
      obtain ⟨x0, x1, x2, x3, x4⟩ := HX6.out.at
      obtain ⟨t0, t1, t2⟩ := HU6.out.at
      obtain ⟨y0, y1, y2, y3, y4⟩ := HG6.out.at
      go_wp2_with fail
      refine (want_impl U U.l 1000 _).mono ?_
      rintro e w7 ⟨rfl, hb7⟩
      rw [HZ.out]
      have HX7 := vl (HX6.out.below hb7)
      have HU7 := vl (HU6.out.below hb7)
      have HG7 := vl (HG6.out.below hb7)
      have HB7 := vl (HB6.out.trans (hb7.mono HB6.out.size))
      clear hb7 x0 x1 x2 x3 x4 t0 t1 t2 y0 y1 y2 y3 y4
      obtain ⟨x0, x1, x2, x3, x4⟩ := HX7.out.at
      obtain ⟨t0, t1, t2⟩ := HU7.out.at
      obtain ⟨y0, y1, y2, y3, y4⟩ := HG7.out.at
      go_wp2_with fail
      refine (want_impl U U.h 1000 _).mono ?_
      rintro e w8 ⟨rfl, hb8⟩
      rw [H1K.out]
      have HX8 := vl (HX7.out.below hb8)
      have HU8 := vl (HU7.out.below hb8)
      have HG8 := vl (HG7.out.below hb8)
      have HB8 := vl (HB7.out.trans (hb8.mono HB7.out.size))
      clear hb8 x0 x1 x2 x3 x4 t0 t1 t2 y0 y1 y2 y3 y4
      obtain ⟨x0, x1, x2, x3, x4⟩ := HX8.out.at
      obtain ⟨t0, t1, t2⟩ := HU8.out.at
      obtain ⟨y0, y1, y2, y3, y4⟩ := HG8.out.at
      rcases hop with h | h
      · go_wp2
        go_ret
        exact ⟨rfl, HB8.out⟩
      · have e1 : (o == 10 * W.g) = true := by simp [h]
        by_cases h2 : o < o2
        · clear h e1
          go_wp2
          go_ret
          exact ⟨rfl, HB8.out⟩
        · have h3 : o2 ≤ o := by omega
          clear h h2
          go_wp2
          go_ret
          exact ⟨rfl, HB8.out⟩

theorem parOk : Try.f7.params.toList.all (fun t => Try.prog.readableRec t && decide (t < Try.prog.types.size)) = true := by kernel_rfl
set_option maxRecDepth 100000 in
theorem lifted (os : Os) (started : os.Started) (H : Type) (enc : TypeId × Value → H) :
    ReturnsInHanded {} Try.checked os 7 .any (Rows.fnGateStepsSpec.pre6 enc Try.prog Try.f7 Rows.fnGateStepsRow.domain false) (Rows.fnGateStepsSpec.post enc Try.prog Try.f7 false true false false) := by
  refine law_lifted (C := Try.checked) own started (by kernel_rfl) Try.func7 laid (fun t ht => by
      have h := List.all_eq_true.1 parOk t ht
      rw [Bool.and_eq_true] at h
      exact ⟨h.1, of_decide_eq_true h.2⟩) rfl Try.underlying4 rfl
    (fun xs hx => by
      rw [show Try.f7.params.toList.length = 1 from by rw [Try.params7]; rfl] at hx
      match xs, hx with
      | [d0], _ => rfl)
    (ChangeSpec.witness6 (enc := enc) (C := Try.checked) false ⟨#[], #[.slice none 0 0], []⟩ 8 (by kernel_rfl) (by kernel_rfl) (by kernel_rfl) (by kernel_rfl)) ?_
  intro W base args ds p hval0 hA0 _
  have hval : ∀ (j : Nat) t v, Try.f7.params[j]? = some t → args[j]? = some v → Value.okWide Try.prog W .any base t v := hval0
  have hA : DataW.TrodAll enc Try.prog W 0 (fun _ => true) true Try.f7.params.toList args.toList ds p := hA0
  clear hA0 hval0
  rw [Try.params7] at hA hval
  obtain ⟨v0, vs0, d0, ds0, p0, q0, hargs, rfl, rfl, h0, r0⟩ := trodAll_cons hA
  obtain ⟨rfl, rfl, rfl⟩ := trodAll_nil r0
  obtain rfl : args = #[v0] := by cases args; simp_all
  obtain ⟨A0, n0, c0, f0, rfl, x0, y0⟩ := slice_bytes Try.underlying22 (by kernel_rfl) Try.underlying5 (hval 0 22 _ rfl rfl) h0
  exact walk A0 n0 c0 f0 W x0 y0

/-- The statement. -/
theorem proved : Rows.FnGateStepsSaid :=
  OpenClaim.holds_of_wide 7 Try.f7 rfl rfl rfl rfl rfl rfl rfl ⟨rfl, rfl, rfl, rfl, rfl⟩ rfl rfl rfl rfl rfl (by kernel_rfl) Try.func7 (by kernel_rfl)
    (of_decide_eq_true (by kernel_rfl)) (by unfold Func.isWrapper; first | (rw [if_pos (by decide +kernel)]; kernel_rfl) | (rw [if_neg (by decide +kernel)]; exact ⟨rfl, rfl⟩))
    (fun os started H enc _ => lifted os started H enc)
#print axioms proved
end Go.Proofs.Ytolifdpbkdeeeaa.fnGateSteps
