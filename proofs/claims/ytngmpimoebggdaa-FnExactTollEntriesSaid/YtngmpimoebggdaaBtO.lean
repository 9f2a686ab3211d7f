/- Whether a boat is valid: of the program and of its model. -/
import Derived.Test.YtngmpimoebggdaaTrnM
import Derived.Test.YtngmpimoebggdaaApp
import Derived.StillTailTactics
import Derived.Deep.RegionWith
namespace Go.Proofs.Ytngmpimoebggdaa.C1
open Go.ChangeShapes Go.WideShapes Go.ChangeAt Go.RowKit
set_option linter.unusedVariables false

theorem bOk_cases (b : Bt) : (bOk b = false ∧ inB b.i 1 9999 = false) ∨ (bOk b = false ∧ inB b.i 1 9999 = true ∧ inB b.l 1 200 = false) ∨ (bOk b = false ∧ inB b.i 1 9999 = true ∧ inB b.l 1 200 = true ∧ inB b.w 1 30 = false) ∨
    (bOk b = false ∧ inB b.i 1 9999 = true ∧ inB b.l 1 200 = true ∧ inB b.w 1 30 = true ∧ inB b.d 1 100 = false) ∨ (bOk b = false ∧ inB b.i 1 9999 = true ∧ inB b.l 1 200 = true ∧ inB b.w 1 30 = true ∧ inB b.d 1 100 = true ∧ inB b.s 1 50 = false) ∨
    (bOk b = inB b.c 0 2 ∧ inB b.i 1 9999 = true ∧ inB b.l 1 200 = true ∧ inB b.w 1 30 = true ∧ inB b.d 1 100 = true ∧ inB b.s 1 50 = true) := by
  unfold bOk
  cases inB b.i 1 9999 <;> cases inB b.l 1 200 <;> cases inB b.w 1 30 <;> cases inB b.d 1 100 <;> cases inB b.s 1 50 <;> simp
theorem bok_spec (b : Bt) (w : World) : Calls Try.prog 139 #[.agg #[.int .i64 b.i, .int .i64 b.l, .int .i64 b.w, .int .i64 b.d, .int .i64 b.s, .int .i64 b.c]] w fun e w' => e = .returned (.bool (bOk b)) ∧ Below w.heap.size w w' := by
  have HB0 := vl ((Below.refl w.heap.size w).alloc (Nat.le_refl _) (.cells #[.int .i64 b.i, .int .i64 b.l, .int .i64 b.w, .int .i64 b.d, .int .i64 b.s, .int .i64 b.c] 177))
  rcases bOk_cases b with ⟨h, h1⟩ | ⟨h, h1, h2⟩ | ⟨h, h1, h2, h3⟩ | ⟨h, h1, h2, h3, h4⟩ | ⟨h, h1, h2, h3, h4, h5⟩ | ⟨h, h1, h2, h3, h4, h5⟩
  all_goals
    have H := vl h
    clear h
    go_enter Try.func139, Try.ntmps139
    go_wp2_with (go_at_call 65; refine (in_spec _ _ _ _).mono ?_; rintro e w' ⟨rfl, rfl⟩)
    go_ret
    exact ⟨ret_bool H.out.symm, HB0.out⟩
theorem clampZ_mid' {n lo hi : Int} (h1 : lo ≤ n) (h2 : n ≤ hi) : clampZ n lo hi = n := by unfold clampZ; rw [if_neg (by omega), if_neg (by omega), if_neg (by omega)]
theorem clampZ_bd' {n lo hi : Int} (h : lo ≤ hi) : lo ≤ clampZ n lo hi ∧ clampZ n lo hi ≤ hi := by
  unfold clampZ
  rw [if_neg (by omega)]
  split
  · omega
  · split <;> omega
theorem still_c {P : Program} {f : FuncId} {args : Array Value} {w : World} {v : Value} (h : Calls P f args w fun e w' => e = .returned v ∧ w = w') : Calls P f args w fun e w'' => e = .returned v ∧ w'' = w := h.mono fun _ _ ⟨h1, h2⟩ => ⟨h1, h2.symm⟩
theorem clamp_at' {n lo hi : Int} {w : World} {z : Int} (h : clampZ n lo hi = z) : Calls Try.prog 210 #[.int .i64 n, .int .i64 lo, .int .i64 hi] w fun e w' => e = .returned (.int .i64 z) ∧ w = w' := by subst h; exact clamp_impl _ _ _ _
/-- Each number put into its range. -/
def cB (b : Bt) : Bt := ⟨clampZ b.i 1 9999, clampZ b.l 1 200, clampZ b.w 1 30, clampZ b.d 1 100, clampZ b.s 1 50, clampZ b.c 0 2⟩
theorem cB_in (b : Bt) : BIn (cB b) := by
  have h1 := clampZ_bd' (n := b.i) (show (1 : Int) ≤ 9999 by decide)
  have h2 := clampZ_bd' (n := b.l) (show (1 : Int) ≤ 200 by decide)
  have h3 := clampZ_bd' (n := b.w) (show (1 : Int) ≤ 30 by decide)
  have h4 := clampZ_bd' (n := b.d) (show (1 : Int) ≤ 100 by decide)
  have h5 := clampZ_bd' (n := b.s) (show (1 : Int) ≤ 50 by decide)
  have h6 := clampZ_bd' (n := b.c) (show (0 : Int) ≤ 2 by decide)
  exact ⟨h1.1, h1.2, h2.1, h2.2, h3.1, h3.2, h4.1, h4.2, h5.1, h5.2, h6.1, h6.2⟩
theorem cB_id {b : Bt} (h : bOk b = true) : cB b = b := by
  have H := bOk_iff.1 h
  unfold cB
  rw [clampZ_mid' H.i0 H.i1, clampZ_mid' H.l0 H.l1, clampZ_mid' H.w0 H.w1, clampZ_mid' H.d0 H.d1, clampZ_mid' H.s0 H.s1, clampZ_mid' H.c0 H.c1]
theorem cB_ne {b : Bt} (h : bOk b = false) : b ≠ cB b := fun e => by
  have h1 := bOk_iff.2 (cB_in b)
  rw [← e, h] at h1; cases h1
theorem diff_b {P Q : Bt} (h : P ≠ Q) : P.i ≠ Q.i ∨ (P.i = Q.i ∧ P.l ≠ Q.l) ∨ (P.i = Q.i ∧ P.l = Q.l ∧ P.w ≠ Q.w) ∨ (P.i = Q.i ∧ P.l = Q.l ∧ P.w = Q.w ∧ P.d ≠ Q.d) ∨ (P.i = Q.i ∧ P.l = Q.l ∧ P.w = Q.w ∧ P.d = Q.d ∧ P.s ≠ Q.s) ∨ (P.i = Q.i ∧ P.l = Q.l ∧ P.w = Q.w ∧ P.d = Q.d ∧ P.s = Q.s ∧ P.c ≠ Q.c) := by
  obtain ⟨a, b, c, d, e, f⟩ := P
  obtain ⟨a', b', c', d', e', f'⟩ := Q
  simp at h ⊢
  omega
set_option maxRecDepth 100000 in
set_option maxHeartbeats 1000000 in
theorem bounded_b (b : Bt) (w : World) : Calls Try.prog 191 #[.agg #[.int .i64 b.i, .int .i64 b.l, .int .i64 b.w, .int .i64 b.d, .int .i64 b.s, .int .i64 b.c]] w fun e w' => e = .returned (.agg #[.int .i64 (cB b).i, .int .i64 (cB b).l, .int .i64 (cB b).w, .int .i64 (cB b).d, .int .i64 (cB b).s, .int .i64 (cB b).c]) ∧ Below w.heap.size w w' := by
  obtain ⟨i, l, x, d, s, c⟩ := b
  obtain ⟨i9, hi⟩ : ∃ z, clampZ i 1 9999 = z := ⟨_, rfl⟩
  obtain ⟨l9, hl⟩ : ∃ z, clampZ l 1 200 = z := ⟨_, rfl⟩
  obtain ⟨x9, hx⟩ : ∃ z, clampZ x 1 30 = z := ⟨_, rfl⟩
  obtain ⟨d9, hd⟩ : ∃ z, clampZ d 1 100 = z := ⟨_, rfl⟩
  obtain ⟨s9, hs⟩ : ∃ z, clampZ s 1 50 = z := ⟨_, rfl⟩
  obtain ⟨c9, hc⟩ : ∃ z, clampZ c 0 2 = z := ⟨_, rfl⟩
  have hw : cB ⟨i, l, x, d, s, c⟩ = ⟨i9, l9, x9, d9, s9, c9⟩ := by unfold cB; simp only [hi, hl, hx, hd, hs, hc]
  rw [hw]
  have HI := vl hi; have HL := vl hl; have HX := vl hx; have HD := vl hd; have HS := vl hs; have HC := vl hc
  clear hi hl hx hd hs hc hw
  show Calls Try.prog 191 #[.agg #[.int .i64 i, .int .i64 l, .int .i64 x, .int .i64 d, .int .i64 s, .int .i64 c]] w fun e w' => e = .returned (.agg #[.int .i64 i9, .int .i64 l9, .int .i64 x9, .int .i64 d9, .int .i64 s9, .int .i64 c9]) ∧ Below w.heap.size w w'
  go_enter Try.func191, Try.ntmps191
  go_wp2
  generalize hW : ((w.alloc (.cells #[.int .i64 i, .int .i64 l, .int .i64 x, .int .i64 d, .int .i64 s, .int .i64 c] 177)).alloc (.cells #[.int .i64 0, .int .i64 0, .int .i64 0, .int .i64 0, .int .i64 0, .int .i64 0] 177)) = W
  have x0 : W.cell? ⟨w.heap.size, 0, none⟩ = some (.int .i64 i) := by rw [← hW]; simp
  have x1 : W.cell? ⟨w.heap.size, 1, none⟩ = some (.int .i64 l) := by rw [← hW]; simp
  have x2 : W.cell? ⟨w.heap.size, 2, none⟩ = some (.int .i64 x) := by rw [← hW]; simp
  have x3 : W.cell? ⟨w.heap.size, 3, none⟩ = some (.int .i64 d) := by rw [← hW]; simp
  have x4 : W.cell? ⟨w.heap.size, 4, none⟩ = some (.int .i64 s) := by rw [← hW]; simp
  have x5 : W.cell? ⟨w.heap.size, 5, none⟩ = some (.int .i64 c) := by rw [← hW]; simp
  have y0 : W.cell? ⟨w.heap.size + 1, 0, none⟩ = some (.int .i64 0) := by rw [← hW]; simp
  have z0 : W.frozen? ⟨w.heap.size + 1, 0, none⟩ = false := by rw [← hW]; simp
  have y1 : W.cell? ⟨w.heap.size + 1, 1, none⟩ = some (.int .i64 0) := by rw [← hW]; simp
  have z1 : W.frozen? ⟨w.heap.size + 1, 1, none⟩ = false := by rw [← hW]; simp
  have y2 : W.cell? ⟨w.heap.size + 1, 2, none⟩ = some (.int .i64 0) := by rw [← hW]; simp
  have z2 : W.frozen? ⟨w.heap.size + 1, 2, none⟩ = false := by rw [← hW]; simp
  have y3 : W.cell? ⟨w.heap.size + 1, 3, none⟩ = some (.int .i64 0) := by rw [← hW]; simp
  have z3 : W.frozen? ⟨w.heap.size + 1, 3, none⟩ = false := by rw [← hW]; simp
  have y4 : W.cell? ⟨w.heap.size + 1, 4, none⟩ = some (.int .i64 0) := by rw [← hW]; simp
  have z4 : W.frozen? ⟨w.heap.size + 1, 4, none⟩ = false := by rw [← hW]; simp
  have y5 : W.cell? ⟨w.heap.size + 1, 5, none⟩ = some (.int .i64 0) := by rw [← hW]; simp
  have z5 : W.frozen? ⟨w.heap.size + 1, 5, none⟩ = false := by rw [← hW]; simp
  have HB := vl (show Below w.heap.size w W by rw [← hW]; exact ((Below.refl _ _).alloc (Nat.le_refl _) _).alloc (by simp) _)
  clear hW
  refine wp_region_still_tail 19 (by kernel_rfl) (by kernel_rfl) ?_
  simp only [List.take_succ_cons, List.take_zero, List.drop_succ_cons, List.drop_zero]
  repeat (refine wpStill_step (fun K hK => ?_); go_simp; first | (refine hK _ ?_; clear hK K) | (first | refine ⟨_, still_c (clamp_at' HI.out), hK _ ?_⟩ | refine ⟨_, still_c (clamp_at' HL.out), hK _ ?_⟩ | refine ⟨_, still_c (clamp_at' HX.out), hK _ ?_⟩ | refine ⟨_, still_c (clamp_at' HD.out), hK _ ?_⟩ | refine ⟨_, still_c (clamp_at' HS.out), hK _ ?_⟩ | refine ⟨_, still_c (clamp_at' HC.out), hK _ ?_⟩; clear hK K))
  try refine wpStill_nil ?_
  change wpList _ _ _ _ _ W.drew
  go_wp2
  refine bodyPost_ret (v := .agg #[.int .i64 i9, .int .i64 l9, .int .i64 x9, .int .i64 d9, .int .i64 s9, .int .i64 c9]) (by simp [results, Try.results191, go_sem, y0, y1, y2, y3, y4, y5]) rfl ?_
  exact ⟨rfl, by (repeat' (first | (with_reducible exact Below.refl _ _) | (with_reducible refine Below.drew ?_) | (with_reducible refine Below.alloc ?_ ?_ _) | (with_reducible refine Below.setCell ?_ ?_ _) | (with_reducible refine Below.trans ?_ (HB.out.mono ?_)) | (first | omega | (simp; omega) | (simp; done))))⟩
end Go.Proofs.Ytngmpimoebggdaa.C1
