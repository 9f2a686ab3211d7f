/- ValueAt, of the program and of its model: both return the value of one plain function. -/
import Derived.Test.YtngmpimoebggdaaTab
import Derived.StillTailTactics
namespace Go.Proofs.Ytngmpimoebggdaa.C1
open Go.ChangeShapes Go.WideShapes Go.ChangeAt Go.RowKit
set_option linter.unusedVariables false

def cntLe (X : Nat → Int) (x : Int) : Nat → Nat
  | 0 => 0
  | k + 1 => if X k ≤ x then k + 1 else cntLe X x k
def midZ (X Y : Nat → Int) (x : Int) (k : Nat) : Int := Y k + (x - X k) * (Y (k + 1) - Y k) / (X (k + 1) - X k)
def valZ (n : Nat) (X Y : Nat → Int) (x : Int) : Int :=
  if tabOk n X Y = true then (if x ≤ X 0 then Y 0 else if X (n - 1) ≤ x then Y (n - 1) else midZ X Y x (cntLe X x n - 1)) else 0

theorem okAt_of {X Y : Nat → Int} {i : Nat} (h : okAt X Y i = true) : (0 ≤ X i ∧ X i ≤ 1000000000) ∧ (0 ≤ Y i ∧ Y i ≤ 1000000000) ∧ (0 < i → X (i - 1) < X i ∧ Y (i - 1) ≤ Y i) := by
  unfold okAt at h
  simp only [Bool.and_eq_true, Bool.or_eq_true, decide_eq_true_eq, inB_iff, beq_iff_eq] at h
  refine ⟨h.1.1, h.1.2, fun hi => ?_⟩
  rcases h.2 with h | h
  · omega
  · exact h
structure TabP (n : Nat) (X Y : Nat → Int) : Prop where
  two : 2 ≤ n
  most : n ≤ 20
  x : ∀ i, i < n → 0 ≤ X i ∧ X i ≤ 1000000000
  y : ∀ i, i < n → 0 ≤ Y i ∧ Y i ≤ 1000000000
  xs : ∀ i, i + 1 < n → X i < X (i + 1)
  ys : ∀ i, i + 1 < n → Y i ≤ Y (i + 1)
theorem tabP_of {n : Nat} {X Y : Nat → Int} (h : tabOk n X Y = true) : TabP n X Y := by
  unfold tabOk at h
  rw [Bool.and_eq_true, inB_iff, okTo_iff] at h
  obtain ⟨⟨h1, h2⟩, h3⟩ := h
  exact ⟨by omega, by omega, fun i hi => (okAt_of (h3 i hi)).1, fun i hi => (okAt_of (h3 i hi)).2.1, fun i hi => ((okAt_of (h3 (i + 1) hi)).2.2 (by omega)).1, fun i hi => ((okAt_of (h3 (i + 1) hi)).2.2 (by omega)).2⟩
theorem TabP.x_lt {n : Nat} {X Y : Nat → Int} (h : TabP n X Y) {i j : Nat} (hij : i < j) (hj : j < n) : X i < X j := by
  induction j with
  | zero => omega
  | succ j ih =>
    have h1 := h.xs j hj
    rcases Nat.lt_or_ge i j with h2 | h2
    · have := ih h2 (by omega); omega
    · obtain rfl : i = j := by omega
      exact h1
theorem TabP.y_le {n : Nat} {X Y : Nat → Int} (h : TabP n X Y) {i j : Nat} (hij : i ≤ j) (hj : j < n) : Y i ≤ Y j := by
  induction j with
  | zero => obtain rfl : i = 0 := by omega
            exact Int.le_refl _
  | succ j ih =>
    have h1 := h.ys j hj
    rcases Nat.lt_or_ge i (j + 1) with h2 | h2
    · have := ih (by omega) (by omega); omega
    · obtain rfl : i = j + 1 := by omega
      exact Int.le_refl _
theorem cntLe_of {n : Nat} {X Y : Nat → Int} (h : TabP n X Y) {x : Int} {k : Nat} (hk : k + 1 < n) (h1 : X k ≤ x) (h2 : x < X (k + 1)) : cntLe X x n = k + 1 := by
  have : ∀ m, k + 1 ≤ m → m ≤ n → cntLe X x m = k + 1 := by
    intro m
    induction m with
    | zero => intro h; omega
    | succ m ih =>
      intro hm hmn
      unfold cntLe
      rcases Nat.lt_or_ge (k + 1) (m + 1) with h3 | h3
      · have h4 : X (k + 1) ≤ X m := by
          rcases Nat.lt_or_ge (k + 1) m with h5 | h5
          · have := h.x_lt h5 (by omega); omega
          · obtain rfl : k + 1 = m := by omega
            exact Int.le_refl _
        rw [if_neg (by omega)]
        exact ih (by omega) (by omega)
      · obtain rfl : k = m := by omega
        rw [if_pos h1]
  exact this n (by omega) (Nat.le_refl _)
theorem mid_bd (d a b : Int) (h0 : 0 ≤ d) (hd : d ≤ b) (ha : 0 ≤ a) (ha' : a ≤ 1000000000) (hb : 0 < b) (hb' : b ≤ 1000000000) :
    0 ≤ d * a ∧ d * a ≤ 1000000000000000000 ∧ 0 ≤ d * a / b ∧ d * a / b ≤ a := by
  have p0 : 0 ≤ d * a := Int.mul_nonneg h0 ha
  have p1 : d * a ≤ 1000000000 * 1000000000 := Int.mul_le_mul (by omega) ha' ha (by omega)
  have p2 : d * a ≤ b * a := Int.mul_le_mul hd (Int.le_refl _) ha (by omega)
  refine ⟨p0, by omega, Int.ediv_nonneg p0 (by omega), ?_⟩
  have p3 : d * a / b < a + 1 := (Int.ediv_lt_iff_lt_mul hb).2 (by rw [Int.add_mul, Int.one_mul, Int.mul_comm a b]; omega)
  omega
theorem valZ_no {n : Nat} {X Y : Nat → Int} {x : Int} (h : tabOk n X Y = false) : valZ n X Y x = 0 := by unfold valZ; rw [if_neg (by rw [h]; decide)]
theorem valZ_low {n : Nat} {X Y : Nat → Int} {x : Int} (h : tabOk n X Y = true) (h1 : x ≤ X 0) : valZ n X Y x = Y 0 := by unfold valZ; rw [if_pos h, if_pos h1]
theorem valZ_high {n : Nat} {X Y : Nat → Int} {x : Int} (h : tabOk n X Y = true) (h1 : X 0 < x) (h2 : X (n - 1) ≤ x) : valZ n X Y x = Y (n - 1) := by unfold valZ; rw [if_pos h, if_neg (by omega), if_pos h2]
theorem valZ_mid {n : Nat} {X Y : Nat → Int} {x : Int} {k : Nat} (h : tabOk n X Y = true) (h0 : X 0 < x) (h9 : x < X (n - 1)) (hk : k + 1 < n) (h1 : X k ≤ x) (h2 : x < X (k + 1)) : valZ n X Y x = midZ X Y x k := by
  unfold valZ; rw [if_pos h, if_neg (by omega), if_neg (by omega), cntLe_of (tabP_of h) hk h1 h2]; rfl

set_option maxHeartbeats 1000000 in
theorem val_spec (A : Option Addr) (n cap : Nat) (x : Int) (w : World) (hn : n ≤ 1048576) (X Y : Nat → Int) (hp : Pts w A n X Y) :
    Calls Try.prog 215 #[.slice A n cap, .int .i64 x] w fun e w' => e = .returned (.int .i64 (valZ n X Y x)) ∧ Below w.heap.size w w' := by
  cases ht : tabOk n X Y with
  | false =>
    have H := Lib.hid (valZ_no (x := x) ht)
    go_enter Try.func215, Try.ntmps215
    go_wp2_with fail
    refine (tab_spec _ _ _ _ hn X Y hp).mono ?_
    rintro e w1 ⟨rfl, hb1⟩
    go_wp2
    go_ret
    exact ⟨ret_int H.out.symm, hb1⟩
  | true =>
    have T := tabP_of ht
    obtain ⟨g, o, rfl, hc⟩ := hp (by have := T.two; omega)
    obtain ⟨t2, t20⟩ : 2 ≤ n ∧ n ≤ 20 := ⟨T.two, T.most⟩
    have HT := Lib.hid ht
    have HP := Lib.hid hp
    have HC := Lib.hid hc
    clear hc hp
    by_cases hlo : x ≤ X 0
    · have H := Lib.hid (valZ_low ht hlo)
      go_enter Try.func215, Try.ntmps215
      go_wp2_with fail
      refine (tab_spec _ _ _ _ hn X Y HP.out).mono ?_
      rintro e w1 ⟨rfl, hb1⟩
      obtain ⟨hx0, hy0⟩ := HC.out 0 (by omega)
      have hx0' := (hb1.cell (cell_lt hx0)).trans hx0
      have hy0' := (hb1.cell (cell_lt hy0)).trans hy0
      rw [Nat.zero_mul, Nat.add_zero] at hx0' hy0'
      clear hx0 hy0
      go_wp2
      go_ret
      exact ⟨ret_int H.out.symm, hb1⟩
    by_cases hhi : X (n - 1) ≤ x
    · have H := Lib.hid (valZ_high ht (by omega) hhi)
      go_enter Try.func215, Try.ntmps215
      go_wp2_with fail
      refine (tab_spec _ _ _ _ hn X Y HP.out).mono ?_
      rintro e w1 ⟨rfl, hb1⟩
      obtain ⟨hx0, _⟩ := HC.out 0 (by omega)
      have hx0' := (hb1.cell (cell_lt hx0)).trans hx0
      rw [Nat.zero_mul, Nat.add_zero] at hx0'
      obtain ⟨hx1, hy1⟩ := HC.out (n - 1) (by omega)
      have hx1' := (hb1.cell (cell_lt hx1)).trans hx1
      have hy1' := (hb1.cell (cell_lt hy1)).trans hy1
      clear hx0 hx1 hy1
      go_wp2
      go_ret
      exact ⟨ret_int H.out.symm, hb1⟩
    have hlo' : X 0 < x := by omega
    have hhi' : x < X (n - 1) := by omega
    go_enter Try.func215, Try.ntmps215
    go_wp2_with fail
    refine (tab_spec _ _ _ _ hn X Y HP.out).mono ?_
    rintro e w1 ⟨rfl, hb1⟩
    obtain ⟨hx0, _⟩ := HC.out 0 (by omega)
    have hx0' := (hb1.cell (cell_lt hx0)).trans hx0
    rw [Nat.zero_mul, Nat.add_zero] at hx0'
    obtain ⟨hx1, _⟩ := HC.out (n - 1) (by omega)
    have hx1' := (hb1.cell (cell_lt hx1)).trans hx1
    clear hx0 hx1
    go_wp2
    go_loop [6] (fun i => ∃ k : Nat, k + 1 < n ∧ i = .int .i64 k ∧ X k ≤ x) (fun i => n - (intOf i).toNat)
    case atStart => exact ⟨0, by omega, rfl, by omega⟩
    case round =>
      obtain ⟨k, hk, rfl, hkx⟩ := hrel
      obtain ⟨hx2, hy2⟩ := HC.out (k + 1) (by omega)
      have hx2' := (hb1.cell (cell_lt hx2)).trans hx2
      have hy2' := (hb1.cell (cell_lt hy2)).trans hy2
      by_cases hle : X (k + 1) ≤ x
      · have hkn : k + 1 + 1 < n := by
          rcases Nat.lt_or_ge (k + 1 + 1) n with h | h
          · exact h
          · exfalso
            rw [show n - 1 = k + 1 by omega] at hhi'
            omega
        clear hx2 hy2
        go_wp2
        go_round
        case rel => exact ⟨k + 1, hkn, by go_num, hle⟩
        case measure => simp [intOf]; omega
      · have hlt : x < X (k + 1) := by omega
        have H := Lib.hid (valZ_mid HT.out hlo' hhi' hk hkx hlt)
        obtain ⟨hx3, hy3⟩ := HC.out k (by omega)
        have hx3' := (hb1.cell (cell_lt hx3)).trans hx3
        have hy3' := (hb1.cell (cell_lt hy3)).trans hy3
        have hg := cell_lt hx3'
        simp only at hg
        clear hx2 hy2 hx3 hy3
        have xb := T.x k (by omega)
        have xb' := T.x (k + 1) hk
        have yb := T.y k (by omega)
        have yb' := T.y (k + 1) hk
        have yy := T.ys k hk
        obtain ⟨m0, m1, m2, m3⟩ := mid_bd (x - X k) (Y (k + 1) - Y k) (X (k + 1) - X k) (by omega) (by omega) (by omega) (by omega) (by omega) (by omega)
        go_wp2
        go_quiet (fail)
        go_wp2
        go_ret
        exact ⟨ret_int H.out.symm, (hb1.alloc hb1.size _).alloc (by simp; have := hb1.size; omega) _ |>.drewN' _⟩
end Go.Proofs.Ytngmpimoebggdaa.C1
