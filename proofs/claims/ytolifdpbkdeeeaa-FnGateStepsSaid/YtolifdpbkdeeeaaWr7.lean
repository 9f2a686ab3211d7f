/- OpenFor, of the program and of its model. -/
import Derived.Test.YtolifdpbkdeeeaaWr6
import Derived.Laws.EntriesVeiled
namespace Go.Proofs.Ytolifdpbkdeeeaa.C1
open Go.ChangeShapes Go.WideShapes Go.ChangeAt Go.RowKit
set_option linter.unusedVariables false

/-- What the search's function value has captured. -/
def FCells (w : World) (b9 b7 b b2 : Nat) (x r flow : Int) : Prop :=
  w.cell? ⟨b9, 0, none⟩ = some (.func (Fn.func 118) #[] #[.pointer (some ⟨b, 0, none⟩), .pointer (some ⟨b2, 0, none⟩)]) ∧ w.cell? ⟨b7, 0, none⟩ = some (.int .i64 flow) ∧ w.cell? ⟨b, 4, none⟩ = some (.int .i64 x) ∧ w.cell? ⟨b2, 0, none⟩ = some (.int .i64 r)
theorem FCells.below {w w' : World} {b9 b7 b b2 : Nat} {x r flow : Int} (h : FCells w b9 b7 b b2 x r flow) (hb : Below w.heap.size w w') : FCells w' b9 b7 b b2 x r flow :=
  ⟨(hb.cell (World.block_lt_of_cell? _ _ h.1)).trans h.1, (hb.cell (World.block_lt_of_cell? _ _ h.2.1)).trans h.2.1, (hb.cell (World.block_lt_of_cell? _ _ h.2.2.1)).trans h.2.2.1, (hb.cell (World.block_lt_of_cell? _ _ h.2.2.2)).trans h.2.2.2⟩
theorem open_one (n x r flow : Int) (b9 b7 b b2 : Nat) (w : World) (h0 : 0 ≤ n * x) (h1 : n * x ≤ 80000) (h2 : 0 ≤ n * x * r) (h3 : n * x * r ≤ 25280000) (hf : FCells w b9 b7 b b2 x r flow) :
    Calls Try.prog 86 #[.int .i64 n, .pointer (some ⟨b9, 0, none⟩), .pointer (some ⟨b7, 0, none⟩)] w fun e w' => e = .returned (.bool (decide (flow ≤ n * x * r / 10))) ∧ Below w.heap.size w w' := by
  obtain ⟨c9, c7, c4, c2⟩ := hf
  go_enter Try.func86, Try.ntmps86
  go_wp2
  go_quiet ((go_at_call 118; exact quiet_l (gform_one _ _ _ _ _ _ h0 h1 h2 h3 c4 c2)))
  go_wp2
  go_ret
  exact ⟨rfl, (Below.refl _ _).drewN' _⟩
def openF (x r n : Int) : Int := n * x * r / 10
theorem openF_bds {x r n : Int} (x0 : 0 ≤ x) (x1 : x ≤ 1000) (r0 : 0 ≤ r) (r1 : r ≤ 316) (n0 : 0 ≤ n) (n1 : n ≤ 80) : 0 ≤ n * x ∧ n * x ≤ 80000 ∧ 0 ≤ n * x * r ∧ n * x * r ≤ 25280000 := by
  have a1 : 0 ≤ n * x := Int.mul_nonneg n0 x0
  have a2 : n * x ≤ 80 * 1000 := Int.mul_le_mul n1 x1 x0 (by omega)
  have a3 : 0 ≤ n * x * r := Int.mul_nonneg a1 r0
  have a4 : n * x * r ≤ 80000 * 316 := Int.mul_le_mul (by omega) r1 r0 (by omega)
  omega
theorem openF_mono {x r n m : Int} (x0 : 0 ≤ x) (r0 : 0 ≤ r) (h : n ≤ m) : openF x r n ≤ openF x r m := by
  have a1 : n * x ≤ m * x := Int.mul_le_mul_of_nonneg_right h x0
  have a2 : n * x * r ≤ m * x * r := Int.mul_le_mul_of_nonneg_right a1 r0
  unfold openF
  omega
set_option maxHeartbeats 1000000 in
theorem search (N : Nat) (x r flow : Int) (b9 b7 b b2 : Nat) (w : World) (hN : N ≤ 80) (x0 : 0 ≤ x) (x1 : x ≤ 1000) (r0 : 0 ≤ r) (r1 : r ≤ 316) (hf : FCells w b9 b7 b b2 x r flow) :
    Calls Try.prog 84 #[.int .i64 N, .func (Fn.func 86) #[] #[.pointer (some ⟨b9, 0, none⟩), .pointer (some ⟨b7, 0, none⟩)]] w fun e w' => e = .returned (.int .i64 (leastF (openF x r) flow 0 N : Nat)) ∧ Below w.heap.size w w' := by
  have HF := Lib.hid hf
  clear hf
  go_enter Try.func84, Try.ntmps84
  go_wp2
  go_loopw [5, 6] (fun i j wr => ∃ a c : Nat, a ≤ c ∧ c ≤ N ∧ i = .int .i64 a ∧ j = .int .i64 c ∧ Hid (∀ t, t < a → openF x r (t : Int) < flow) ∧ Hid (c < N → flow ≤ openF x r (c : Int)) ∧ Hid (Below w.heap.size w wr)) (fun i j _ => (intOf j - intOf i).toNat)
  case atStart => exact ⟨0, N, by omega, by omega, rfl, rfl, Lib.hid (fun t h => absurd h (by omega)), Lib.hid (fun h => absurd h (by omega)), Lib.hid (Below.refl _ _)⟩
  case round =>
    obtain ⟨a, c, hac, hcN, rfl, rfl, H1, H2, HB⟩ := hrel
    by_cases hlt : a < c
    · obtain ⟨o0, o1, o2, o3⟩ := openF_bds (n := ((a : Int) + c) / 2) x0 x1 r0 r1 (by omega) (by omega)
      by_cases hb : flow ≤ openF x r (((a : Int) + c) / 2)
      · have HD := Lib.hid (show decide (flow ≤ ((a : Int) + c) / 2 * x * r / 10) = true from decide_eq_true hb)
        have HB2 := Lib.hid hb
        clear hb
        go_wp2_with fail
        refine (open_one _ x r flow _ _ _ _ _ o0 o1 o2 o3 (HF.out.below HB.out)).mono ?_
        rintro e w2 ⟨rfl, hb2⟩
        rw [HD.out]
        have HB' := Lib.hid (HB.out.trans (hb2.mono HB.out.size))
        clear hb2
        go_wp2
        go_roundw
        case rel => exact ⟨a, (a + c) / 2, by omega, by omega, rfl, by show Value.int _ _ = _; congr 1, H1, Lib.hid (fun _ => by rw [show (((a + c) / 2 : Nat) : Int) = ((a : Int) + c) / 2 by omega]; exact HB2.out), HB'⟩
        case measure => simp [intOf]; omega
      · have HD := Lib.hid (show decide (flow ≤ ((a : Int) + c) / 2 * x * r / 10) = false from decide_eq_false hb)
        have HB2 := Lib.hid (show openF x r (((a : Int) + c) / 2) < flow by omega)
        clear hb
        go_wp2_with fail
        refine (open_one _ x r flow _ _ _ _ _ o0 o1 o2 o3 (HF.out.below HB.out)).mono ?_
        rintro e w2 ⟨rfl, hb2⟩
        rw [HD.out]
        have HB' := Lib.hid (HB.out.trans (hb2.mono HB.out.size))
        clear hb2
        go_wp2
        go_roundw
        case rel => exact ⟨(a + c) / 2 + 1, c, by omega, by omega, by show Value.int _ _ = _; congr 1, rfl, Lib.hid (fun t ht => by have := openF_mono (n := (t : Int)) (m := ((a : Int) + c) / 2) x0 r0 (by omega); have := HB2.out; omega), H2, HB'⟩
        case measure => simp [intOf]; omega
    · obtain rfl : a = c := by omega
      have H := Lib.hid (leastF_uniq hcN H1.out H2.out)
      go_wp2
      go_ret
      exact ⟨ret_int (by rw [H.out]), HB.out⟩
theorem open_cases (W : Wr) (up down flow : Int) : (wOk W = false ∧ openZ W up down flow = 0) ∨ (wOk W = true ∧ inB up 0 100000 = false ∧ openZ W up down flow = 0) ∨ (wOk W = true ∧ inB up 0 100000 = true ∧ inB down 0 100000 = false ∧ openZ W up down flow = 0) ∨
    (wOk W = true ∧ inB up 0 100000 = true ∧ inB down 0 100000 = true ∧ openZ W up down flow = (openN W up down flow : Int)) := by
  unfold openZ flowB
  cases wOk W <;> cases inB up 0 100000 <;> cases inB down 0 100000 <;> simp
theorem openFlow_F (W : Wr) (up down : Int) : openFlow W up down = openF W.w (rootW W up down) := rfl
set_option maxHeartbeats 2000000 in
theorem open_impl (W : Wr) (up down flow : Int) (w : World) : Calls Try.prog 35 #[.agg #[.int .i64 W.g, .int .i64 W.o, .int .i64 W.s, .int .i64 W.k, .int .i64 W.w], .int .i64 up, .int .i64 down, .int .i64 flow] w fun e w' => e = .returned (.int .i64 (openZ W up down flow)) ∧ Below w.heap.size w w' := by
  have HB0 := Lib.hid (((Below.refl w.heap.size w).alloc (Nat.le_refl _) (.cells #[.int .i64 W.g, .int .i64 W.o, .int .i64 W.s, .int .i64 W.k, .int .i64 W.w] 48)).alloc (by simp) (.cells #[.int .i64 flow] 3))
  go_enter Try.func35, Try.ntmps35
  go_wp2_with fail
  refine (wok_impl W _).mono ?_
  rintro e w1 ⟨rfl, hb1⟩
  have HB1 := Lib.hid (HB0.out.trans (hb1.mono (by simp; omega)))
  have HX := Lib.hid (((Box5.new w (.int .i64 W.g) (.int .i64 W.o) (.int .i64 W.s) (.int .i64 W.k) (.int .i64 W.w) 48).alloc _).below hb1)
  have HC := Lib.hid ((bcell hb1).1 (w.heap.size + 1) 0 (by simp))
  simp at HC
  have q1 : w.heap.size + 1 < w1.heap.size := by have := hb1.size; simp at this; omega
  clear hb1
  rcases open_cases W up down flow with ⟨h, hs⟩ | ⟨h, h1, hs⟩ | ⟨h, h1, h2, hs⟩ | ⟨h, h1, h2, hs⟩
  · have HS := Lib.hid hs
    rw [h]
    clear h hs
    go_wp2
    go_ret
    exact ⟨ret_int HS.out.symm, HB1.out⟩
  · have HS := Lib.hid hs
    rw [h]
    clear h hs
    go_wp2_with (go_at_call 82; refine (lev_impl _ _).mono ?_; rintro e w' ⟨rfl, rfl⟩)
    go_ret
    exact ⟨ret_int HS.out.symm, HB1.out⟩
  · have HS := Lib.hid hs
    rw [h]
    clear h hs
    go_wp2_with (go_at_call 82; refine (lev_impl _ _).mono ?_; rintro e w' ⟨rfl, rfl⟩)
    go_ret
    exact ⟨ret_int HS.out.symm, HB1.out⟩
  · have HS := Lib.hid hs
    have P := wOk_iff.1 h
    have p0 := P.k0; have p1 := P.k1; have g0 := P.g0; have g1 := P.g1; have b0 := P.w0; have b1 := P.w1
    obtain ⟨u0, u1⟩ := inB_iff.1 h1
    obtain ⟨d0, d1⟩ := inB_iff.1 h2
    obtain ⟨r0, r1⟩ := rootW_bd (down := down) p0 u1
    rw [h]
    clear h hs P
    obtain ⟨x0, x1, x2, x3, x4⟩ := HX.out.at
    go_wp2_with (go_at_call 82; refine (lev_impl _ _).mono ?_; rintro e w' ⟨rfl, rfl⟩)
    clear h1 h2
    refine (gform W up down _ p0 p1 u0 u1 d0 d1).mono ?_
    rintro e w2 ⟨rfl, k4, k0, hb2⟩
    have HX2 := Lib.hid (HX.out.below hb2)
    have HC2 := Lib.hid ((hb2.cell (World.block_lt_of_cell? _ _ HC.out)).trans HC.out)
    have HB2 := Lib.hid (HB1.out.trans (hb2.mono (by omega)))
    have q2 : w1.heap.size + 1 < w2.heap.size := World.block_lt_of_cell? _ _ k0
    clear hb2 x0 x1 x2 x3 x4
    obtain ⟨x0, x1, x2, x3, x4⟩ := HX2.out.at
    have y0 := HC2.out
    have q3 : w.heap.size < w2.heap.size := by omega
    have q4 : w.heap.size + 1 < w2.heap.size := by omega
    have k4' := ((Below.refl w2.heap.size w2).alloc (Nat.le_refl _) (.cells #[.func (Fn.func 118) #[] #[.pointer (some ⟨w1.heap.size, 0, none⟩), .pointer (some ⟨w1.heap.size + 1, 0, none⟩)]] 102))
    have hF : FCells (w2.alloc (.cells #[.func (Fn.func 118) #[] #[.pointer (some ⟨w1.heap.size, 0, none⟩), .pointer (some ⟨w1.heap.size + 1, 0, none⟩)]] 102)) w2.heap.size (w.heap.size + 1) w1.heap.size (w1.heap.size + 1) W.w (rootW W up down) flow :=
      ⟨by simp, (k4'.cell (World.block_lt_of_cell? _ _ y0)).trans y0, (k4'.cell (World.block_lt_of_cell? _ _ k4)).trans k4, (k4'.cell (World.block_lt_of_cell? _ _ k0)).trans k0⟩
    have HF := Lib.hid hF
    clear hF k4 k0 k4' y0
    go_wp2_with fail
    refine (full_b W _ (by omega) (by omega)).mono ?_
    rintro e w3 ⟨rfl, hb3⟩
    have HF3 := Lib.hid (HF.out.below hb3)
    have HB3 := Lib.hid (HB2.out.trans ((((Below.refl w2.heap.size w2).alloc (Nat.le_refl _) _).trans (hb3.mono (by simp))).mono (by omega)))
    obtain ⟨N, hN⟩ : ∃ N : Nat, N = (10 * W.g).toNat := ⟨_, rfl⟩
    have HN := Lib.hid hN
    have hN1 : (10 * W.g) = (N : Int) := by omega
    rw [hN1]
    have n80 : N ≤ 80 := by omega
    clear hb3 x0 x1 x2 x3 x4 hN hN1
    go_wp2_with fail
    refine (search N W.w (rootW W up down) flow _ _ _ _ _ n80 (by omega) b1 r0 r1 HF3.out).mono ?_
    rintro e w4 ⟨rfl, hb4⟩
    have HB4 := Lib.hid (HB3.out.trans (hb4.mono HB3.out.size))
    clear hb4
    go_wp2
    go_ret
    exact ⟨ret_int (by rw [HS.out]; unfold openN; rw [openFlow_F, HN.out]), HB4.out⟩
end Go.Proofs.Ytolifdpbkdeeeaa.C1
