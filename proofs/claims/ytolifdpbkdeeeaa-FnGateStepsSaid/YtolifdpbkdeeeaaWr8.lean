/- OpenFor of the model. -/
import Derived.Test.YtolifdpbkdeeeaaWr7
namespace Go.Proofs.Ytolifdpbkdeeeaa.C1
open Go.ChangeShapes Go.WideShapes Go.ChangeAt Go.RowKit
set_option linter.unusedVariables false

theorem flow_with {W : Wr} {up down : Int} (h : wOk W = true) (h1 : inB up 0 100000 = true) (h2 : inB down 0 100000 = true) {k : Int} (k0 : 0 ≤ k) (k1 : k ≤ 10 * W.g) : flowW ⟨W.g, k, W.s, W.k, W.w⟩ up down = openF W.w (rootW W up down) k := by
  have P := wOk_iff.1 h
  have hb : flowB ⟨W.g, k, W.s, W.k, W.w⟩ up down = true := flowB_iff.2 ⟨⟨P.g0, P.g1, k0, k1, P.s0, P.s1, P.k0, P.k1, P.w0, P.w1⟩, inB_iff.1 h1, inB_iff.1 h2⟩
  unfold flowW
  rw [if_pos hb]
  rfl
set_option maxHeartbeats 2000000 in
theorem open_spec (W : Wr) (up down flow : Int) (w : World) : Calls Try.prog 56 #[.agg #[.int .i64 W.g, .int .i64 W.o, .int .i64 W.s, .int .i64 W.k, .int .i64 W.w], .int .i64 up, .int .i64 down, .int .i64 flow] w fun e w' => e = .returned (.int .i64 (openZ W up down flow)) ∧ Below w.heap.size w w' := by
  have HB0 := Lib.hid ((Below.refl w.heap.size w).alloc (Nat.le_refl _) (.cells #[.int .i64 W.g, .int .i64 W.o, .int .i64 W.s, .int .i64 W.k, .int .i64 W.w] 48))
  go_enter Try.func56, Try.ntmps56
  go_wp2_with fail
  refine (wok_spec W _).mono ?_
  rintro e w1 ⟨rfl, hb1⟩
  have HB1 := Lib.hid (HB0.out.trans (hb1.mono (by simp)))
  have HX := Lib.hid ((Box5.new w (.int .i64 W.g) (.int .i64 W.o) (.int .i64 W.s) (.int .i64 W.k) (.int .i64 W.w) 48).below hb1)
  have q1 : w.heap.size < w1.heap.size := by have := hb1.size; simp at this; omega
  clear hb1
  rcases open_cases W up down flow with ⟨h, hs⟩ | ⟨h, h1, hs⟩ | ⟨h, h1, h2, hs⟩ | ⟨h, h1, h2, hs⟩
  · have HS := Lib.hid hs
    rw [h]
    clear h hs
    go_wp2
    go_ret
    exact ⟨ret_int HS.out.symm, HB1.out⟩
  · have HS := Lib.hid hs
    rw [h]
    clear h hs
    go_wp2_with (go_at_call 107; refine (lev_spec _ _).mono ?_; rintro e w' ⟨rfl, rfl⟩)
    go_ret
    exact ⟨ret_int HS.out.symm, HB1.out⟩
  · have HS := Lib.hid hs
    rw [h]
    clear h hs
    go_wp2_with (go_at_call 107; refine (lev_spec _ _).mono ?_; rintro e w' ⟨rfl, rfl⟩)
    go_ret
    exact ⟨ret_int HS.out.symm, HB1.out⟩
  · have HS := Lib.hid hs
    have P := wOk_iff.1 h
    have g0 := P.g0; have g1 := P.g1
    obtain ⟨N, hN⟩ : ∃ N : Nat, N = (10 * W.g).toNat := ⟨_, rfl⟩
    have HFW : Hid (∀ k : Nat, k ≤ N → flowW ⟨W.g, k, W.s, W.k, W.w⟩ up down = openF W.w (rootW W up down) k) := Lib.hid (fun k hk => flow_with h h1 h2 (by omega) (by omega))
    have HE := Lib.hid (show openZ W up down flow = (leastF (openF W.w (rootW W up down)) flow 0 N : Nat) by rw [hs, hN]; rfl)
    have n80 : N ≤ 80 := by omega
    have HN := Lib.hid (show 10 * W.g = (N : Int) by omega)
    rw [h]
    clear h hs P hN
    go_wp2_with (go_at_call 107; refine (lev_spec _ _).mono ?_; rintro e w' ⟨rfl, rfl⟩)
    clear h1 h2
    go_loopw [9] (fun n wr => ∃ k : Nat, k ≤ N ∧ n = .int .i64 k ∧ Hid (∀ t, t < k → openF W.w (rootW W up down) (t : Int) < flow) ∧ Hid (∃ o, Box5 wr w.heap.size (.int .i64 W.g) (.int .i64 o) (.int .i64 W.s) (.int .i64 W.k) (.int .i64 W.w) 48) ∧ Hid (Below w.heap.size w wr)) (fun n _ => N - (intOf n).toNat)
    case atStart => exact ⟨0, by omega, rfl, Lib.hid (fun t ht => absurd ht (by omega)), Lib.hid ⟨_, HX.out⟩, HB1⟩
    case round =>
      obtain ⟨k, hk, rfl, H1, H2, HB⟩ := hrel
      obtain ⟨o, hx⟩ := H2.out
      have HX2 := Lib.hid hx
      clear hx H2
      obtain ⟨x0, x1, x2, x3, x4⟩ := HX2.out.at
      obtain ⟨z0, z1, z2, z3, z4⟩ := HX2.out.free
      by_cases hlt : k < N
      · have hlt' : (k : Int) < 10 * W.g := by have := HN.out; omega
        have HV := Lib.hid (HFW.out k hk)
        by_cases hb : flow ≤ openF W.w (rootW W up down) k
        · have HU := Lib.hid (leastF_uniq (f := openF W.w (rootW W up down)) (flow := flow) (by omega : k ≤ N) H1.out (fun _ => hb))
          have HD := Lib.hid (show decide (flow ≤ openF W.w (rootW W up down) k) = true from decide_eq_true hb)
          go_wp2_with fail
          refine (gflow_spec ⟨W.g, k, W.s, W.k, W.w⟩ up down _).mono ?_
          rintro e w2 ⟨rfl, hb2⟩
          rw [HV.out]
          have HB2 := Lib.hid ((HB.out.setCell (p := ⟨w.heap.size, 1, none⟩) (Nat.le_refl _) (.int .i64 k)).trans (hb2.mono (by simpa using HB.out.size)))
          clear hb2 x0 x1 x2 x3 x4 z0 z1 z2 z3 z4
          go_wp2
          go_ret
          exact ⟨ret_int (by rw [HE.out, HU.out]), HB2.out⟩
        · have HD := Lib.hid (show openF W.w (rootW W up down) k < flow by omega)
          have hb' : openF W.w (rootW W up down) k < flow := by omega
          clear hb
          go_wp2_with fail
          refine (gflow_spec ⟨W.g, k, W.s, W.k, W.w⟩ up down _).mono ?_
          rintro e w2 ⟨rfl, hb2⟩
          rw [HV.out]
          have HB2 := Lib.hid ((HB.out.setCell (p := ⟨w.heap.size, 1, none⟩) (Nat.le_refl _) (.int .i64 k)).trans (hb2.mono (by simpa using HB.out.size)))
          have HX3 := Lib.hid ((HX2.out.set1 (.int .i64 k)).below hb2)
          clear hb2 x0 x1 x2 x3 x4 z0 z1 z2 z3 z4
          go_wp2
          go_roundw
          case rel => exact ⟨k + 1, by omega, by go_num, Lib.hid (fun t ht => by
            rcases Nat.lt_or_ge t k with hh | hh
            · exact H1.out t hh
            · obtain rfl : t = k := by omega
              exact HD.out), Lib.hid ⟨_, HX3.out⟩, HB2⟩
          case measure => simp [intOf]; omega
      · obtain rfl : k = N := by omega
        have HU := Lib.hid (leastF_uniq (f := openF W.w (rootW W up down)) (flow := flow) (Nat.le_refl k) H1.out (fun h => absurd h (by omega)))
        have hge : ¬ (k : Int) < 10 * W.g := by have := HN.out; omega
        clear hlt
        go_wp2
        go_ret
        exact ⟨ret_int (by rw [HE.out, HU.out]), HB.out⟩
end Go.Proofs.Ytolifdpbkdeeeaa.C1
