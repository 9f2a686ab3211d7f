/- TableOk, of the program and of its model: both return the value of one plain function of the points. -/
import Derived.Test.YtngmpimoebggdaaPts
namespace Go.Proofs.Ytngmpimoebggdaa.C1
open Go.ChangeShapes Go.WideShapes Go.ChangeAt Go.RowKit
set_option linter.unusedVariables false

/-- A slice of points in a block of plain cells. -/
def Pts (w : World) (A : Option Addr) (n : Nat) (X Y : Nat → Int) : Prop :=
  0 < n → ∃ g o, A = some ⟨g, o, none⟩ ∧ ∀ i, i < n → w.cell? ⟨g, o + i * 2, none⟩ = some (.int .i64 (X i)) ∧ w.cell? ⟨g, o + i * 2 + 1, none⟩ = some (.int .i64 (Y i))
theorem Pts.below {w w' : World} {A : Option Addr} {n : Nat} {X Y : Nat → Int} (h : Pts w A n X Y) (hb : Below w.heap.size w w') : Pts w' A n X Y := fun hn => by
  obtain ⟨g, o, e, hc⟩ := h hn
  exact ⟨g, o, e, fun i hi => ⟨(hb.cell (cell_lt (hc i hi).1)).trans (hc i hi).1, (hb.cell (cell_lt (hc i hi).2)).trans (hc i hi).2⟩⟩
theorem Pts.of_row {w : World} {g n : Nat} {t : TypeId} {X Y : Nat → Int} (h : w.rowIs g t (n * 2) (ptc X Y)) : Pts w (some ⟨g, 0, none⟩) n X Y := fun _ => by
  refine ⟨g, 0, rfl, fun i hi => ⟨?_, ?_⟩⟩
  · rw [Nat.zero_add, h.cell (i := i * 2) (by omega), ptc_x]
  · rw [Nat.zero_add, h.cell (i := i * 2 + 1) (by omega), ptc_y]

def okAt (X Y : Nat → Int) (i : Nat) : Bool := inB (X i) 0 1000000000 && inB (Y i) 0 1000000000 && (i == 0 || (decide (X (i - 1) < X i) && decide (Y (i - 1) ≤ Y i)))
def okTo (X Y : Nat → Int) : Nat → Bool
  | 0 => true
  | k + 1 => okTo X Y k && okAt X Y k
def tabOk (n : Nat) (X Y : Nat → Int) : Bool := inB (n : Int) 2 20 && okTo X Y n
theorem okTo_iff {X Y : Nat → Int} {n : Nat} : okTo X Y n = true ↔ ∀ i, i < n → okAt X Y i = true := by
  induction n with
  | zero => simp [okTo]
  | succ n ih =>
    simp only [okTo, Bool.and_eq_true, ih]
    constructor
    · rintro ⟨h1, h2⟩ i hi
      rcases Nat.lt_or_ge i n with h | h
      · exact h1 i h
      · obtain rfl : i = n := by omega
        exact h2
    · intro h
      exact ⟨fun i hi => h i (by omega), h n (by omega)⟩
theorem okTo_no {X Y : Nat → Int} {n k : Nat} (hk : k < n) (h : okAt X Y k = false) : okTo X Y n = false := by
  rw [Bool.eq_false_iff]
  intro h'
  rw [okTo_iff.1 h' k hk] at h
  cases h
theorem tab_no {X Y : Nat → Int} {n k : Nat} (hk : k < n) (h : okAt X Y k = false) : tabOk n X Y = false := by
  unfold tabOk; rw [okTo_no hk h, Bool.and_false]
theorem tab_len {X Y : Nat → Int} {n : Nat} (h : inB (n : Int) 2 20 = false) : tabOk n X Y = false := by
  unfold tabOk; rw [h, Bool.false_and]
theorem tab_to {X Y : Nat → Int} {n : Nat} (h : okTo X Y n = true) : tabOk n X Y = inB (n : Int) 2 20 := by
  unfold tabOk; rw [h, Bool.and_true]
/-- The five ways of one place. -/
theorem okAt_cases (X Y : Nat → Int) (k : Nat) :
    (okAt X Y k = false ∧ inB (X k) 0 1000000000 = false) ∨ (okAt X Y k = false ∧ inB (X k) 0 1000000000 = true ∧ inB (Y k) 0 1000000000 = false) ∨
    (okAt X Y k = true ∧ inB (X k) 0 1000000000 = true ∧ inB (Y k) 0 1000000000 = true ∧ k = 0) ∨
    (okAt X Y k = false ∧ inB (X k) 0 1000000000 = true ∧ inB (Y k) 0 1000000000 = true ∧ 0 < k ∧ X k ≤ X (k - 1)) ∨
    (okAt X Y k = false ∧ inB (X k) 0 1000000000 = true ∧ inB (Y k) 0 1000000000 = true ∧ 0 < k ∧ X (k - 1) < X k ∧ Y k < Y (k - 1)) ∨
    (okAt X Y k = true ∧ inB (X k) 0 1000000000 = true ∧ inB (Y k) 0 1000000000 = true ∧ 0 < k ∧ X (k - 1) < X k ∧ Y (k - 1) ≤ Y k) := by
  unfold okAt
  cases h1 : inB (X k) 0 1000000000
  · simp
  cases h2 : inB (Y k) 0 1000000000
  · simp
  rcases Nat.eq_zero_or_pos k with h3 | h3
  · simp [h3]
  by_cases h4 : X (k - 1) < X k
  · by_cases h5 : Y (k - 1) ≤ Y k
    · simp [h4, h5, h3]
    · have h5' : Y k < Y (k - 1) := by omega
      simp [h4, h5, h3, h5']; omega
  · have h4' : X k ≤ X (k - 1) := by omega
    simp [h4, h3, h4']; omega

theorem amount_impl (s : Int) (w : World) :
    Calls Try.prog 70 #[.int .i64 s] w fun e w' => e = .returned (.bool (inB s 0 1000000000)) ∧ w = w' := by
  by_cases h1 : 0 ≤ s
  · by_cases h2 : s ≤ 1000000000
    · go_enter Try.func70, Try.ntmps70
      go_wp2
      go_ret
      exact ⟨ret_bool (inB_yes h1 (by omega)).symm, rfl⟩
    · have h2' : 1000000000 < s := by omega
      go_enter Try.func70, Try.ntmps70
      go_wp2
      go_ret
      exact ⟨ret_bool (inB_no (Or.inr (by omega))).symm, rfl⟩
  · have h1' : s < 0 := by omega
    go_enter Try.func70, Try.ntmps70
    go_wp2
    go_ret
    exact ⟨ret_bool (inB_no (Or.inl h1')).symm, rfl⟩
set_option maxHeartbeats 1000000 in
theorem tab_spec (A : Option Addr) (n cap : Nat) (w : World) (hn : n ≤ 1048576) (X Y : Nat → Int) (hp : Pts w A n X Y) :
    Calls Try.prog 152 #[.slice A n cap] w fun e w' => e = .returned (.bool (tabOk n X Y)) ∧ Below w.heap.size w w' := by
  go_enter Try.func152, Try.ntmps152
  go_wp2
  go_loopw [3] (fun i wr => ∃ k : Nat, k ≤ n ∧ i = .int .i64 k ∧ Below w.heap.size w wr ∧ okTo X Y k = true) (fun i _ => n - (intOf i).toNat)
  case atStart => exact ⟨0, by omega, rfl, Below.refl _ _, rfl⟩
  case round =>
    obtain ⟨k, hk, rfl, hb, hto⟩ := hrel
    by_cases hlt : k < n
    · obtain ⟨g, o, rfl, hsrc⟩ := hp.below hb (by omega)
      obtain ⟨hx, hy⟩ := hsrc k hlt
      rcases okAt_cases X Y k with ⟨h0, h1⟩ | ⟨h0, h1, h2⟩ | ⟨h0, h1, h2, h3⟩ | ⟨h0, h1, h2, h3, h4⟩ | ⟨h0, h1, h2, h3, h4, h5⟩ | ⟨h0, h1, h2, h3, h4, h5⟩
      · have H0 := Lib.hid h0
        have Hto := Lib.hid hto
        clear h0 hsrc hy hto
        go_wp2
        go_quiet ((go_at_call 65; exact quiet_l (in_spec _ _ _ _)))
        go_wp2
        go_ret
        exact ⟨ret_bool (tab_no hlt H0.out).symm, hb.drewN' _⟩
      · have H0 := Lib.hid h0
        have Hto := Lib.hid hto
        clear h0 hsrc hto
        go_wp2
        go_quiet ((go_at_call 65; exact quiet_l (in_spec _ _ _ _)))
        go_wp2
        go_ret
        exact ⟨ret_bool (tab_no hlt H0.out).symm, hb.drewN' _⟩
      · have H0 := Lib.hid h0
        have Hto := Lib.hid hto
        have hg1 : decide ((0 : Int) < (k : Int)) = false := by simp; omega
        have hg2 : decide (0 < k) = false := by simp; omega
        clear h0 hsrc hto h3
        go_wp2
        go_quiet ((go_at_call 65; exact quiet_l (in_spec _ _ _ _)))
        go_wp2
        go_roundw
        case rel => exact ⟨k + 1, by omega, by go_num, hb.drewN' _, by rw [okTo, Hto.out, H0.out]; rfl⟩
        case measure => simp [intOf]; omega
      · have H0 := Lib.hid h0
        have Hto := Lib.hid hto
        obtain ⟨hx', hy'⟩ := hsrc (k - 1) (by omega)
        have a1 : IntKind.i64.wrap ((k : Int) - 1) = (k : Int) - 1 := IntWalk.i64_in _ (by omega)
        have a2 : 1 ≤ (k : Int) := by omega
        have a3 : ((k : Int) - 1).toNat = k - 1 := by omega
        have a4 : 0 ≤ (k : Int) - 1 := by omega
        have a5 : (k : Int) - 1 < (n : Int) := by omega
        have a6 : 1 ≤ k := by omega
        have a7 : k < n + 1 := by omega
        clear h0 hsrc hto hy'
        go_wp2
        go_quiet ((go_at_call 65; exact quiet_l (in_spec _ _ _ _)))
        go_wp2
        go_ret
        exact ⟨ret_bool (tab_no hlt H0.out).symm, hb.drewN' _⟩
      · have H0 := Lib.hid h0
        have Hto := Lib.hid hto
        obtain ⟨hx', hy'⟩ := hsrc (k - 1) (by omega)
        have a1 : IntKind.i64.wrap ((k : Int) - 1) = (k : Int) - 1 := IntWalk.i64_in _ (by omega)
        have a2 : 1 ≤ (k : Int) := by omega
        have a3 : ((k : Int) - 1).toNat = k - 1 := by omega
        have a4 : 0 ≤ (k : Int) - 1 := by omega
        have a5 : (k : Int) - 1 < (n : Int) := by omega
        have a6 : 1 ≤ k := by omega
        have a7 : k < n + 1 := by omega
        clear h0 hsrc hto
        go_wp2
        go_quiet ((go_at_call 65; exact quiet_l (in_spec _ _ _ _)))
        go_wp2
        go_ret
        exact ⟨ret_bool (tab_no hlt H0.out).symm, hb.drewN' _⟩
      · have H0 := Lib.hid h0
        have Hto := Lib.hid hto
        obtain ⟨hx', hy'⟩ := hsrc (k - 1) (by omega)
        have a1 : IntKind.i64.wrap ((k : Int) - 1) = (k : Int) - 1 := IntWalk.i64_in _ (by omega)
        have a2 : 1 ≤ (k : Int) := by omega
        have a3 : ((k : Int) - 1).toNat = k - 1 := by omega
        have a4 : 0 ≤ (k : Int) - 1 := by omega
        have a5 : (k : Int) - 1 < (n : Int) := by omega
        have a6 : 1 ≤ k := by omega
        have a7 : k < n + 1 := by omega
        clear h0 hsrc hto
        go_wp2
        go_quiet ((go_at_call 65; exact quiet_l (in_spec _ _ _ _)))
        go_wp2
        go_roundw
        case rel => exact ⟨k + 1, by omega, by go_num, hb.drewN' _, by rw [okTo, Hto.out, H0.out]; rfl⟩
        case measure => simp [intOf]; omega
    · have H1 := Lib.hid (tab_to (n := n) (X := X) (Y := Y) (by rw [show n = k by omega]; exact hto))
      clear hto
      go_wp2_with (go_at_call 65; refine (in_spec _ _ _ _).mono ?_; rintro e w' ⟨rfl, rfl⟩)
      go_ret
      exact ⟨ret_bool H1.out.symm, hb⟩
set_option maxHeartbeats 1000000 in
theorem tab_impl (A : Option Addr) (n cap : Nat) (w : World) (hn : n ≤ 1048576) (X Y : Nat → Int) (hp : Pts w A n X Y) :
    Calls Try.prog 196 #[.slice A n cap] w fun e w' => e = .returned (.bool (tabOk n X Y)) ∧ Below w.heap.size w w' := by
  by_cases hl : n < 2
  · have H := Lib.hid (tab_len (X := X) (Y := Y) (n := n) (inB_no (by omega)))
    go_enter Try.func196, Try.ntmps196
    go_wp2
    go_ret
    exact ⟨ret_bool H.out.symm, Below.refl _ _⟩
  by_cases hl' : 20 < n
  · have H := Lib.hid (tab_len (X := X) (Y := Y) (n := n) (inB_no (by omega)))
    go_enter Try.func196, Try.ntmps196
    go_wp2
    go_ret
    exact ⟨ret_bool H.out.symm, Below.refl _ _⟩
  have b1 : 2 ≤ n := by omega
  have b2 : n ≤ 20 := by omega
  clear hl hl'
  go_enter Try.func196, Try.ntmps196
  go_wp2
  go_loopw [15] (fun i wr => ∃ k : Nat, k ≤ n ∧ i = .int .i64 k ∧ Below w.heap.size w wr ∧ okTo X Y k = true) (fun i _ => n - (intOf i).toNat)
  case atStart => exact ⟨0, by omega, rfl, Below.refl _ _, rfl⟩
  case round =>
    obtain ⟨k, hk, rfl, hb, hto⟩ := hrel
    by_cases hlt : k < n
    · obtain ⟨g, o, rfl, hsrc⟩ := hp.below hb (by omega)
      obtain ⟨hx, hy⟩ := hsrc k hlt
      rcases okAt_cases X Y k with ⟨h0, h1⟩ | ⟨h0, h1, h2⟩ | ⟨h0, h1, h2, h3⟩ | ⟨h0, h1, h2, h3, h4⟩ | ⟨h0, h1, h2, h3, h4, h5⟩ | ⟨h0, h1, h2, h3, h4, h5⟩
      · have H0 := Lib.hid h0
        have Hto := Lib.hid hto
        clear h0 hsrc hto
        go_wp2_with (go_at_call 70; refine (amount_impl _ _).mono ?_; rintro e w' ⟨rfl, rfl⟩)
        go_ret
        exact ⟨ret_bool (tab_no hlt H0.out).symm, (hb.alloc hb.size _)⟩
      · have H0 := Lib.hid h0
        have Hto := Lib.hid hto
        clear h0 hsrc hto
        go_wp2_with (go_at_call 70; refine (amount_impl _ _).mono ?_; rintro e w' ⟨rfl, rfl⟩)
        go_ret
        exact ⟨ret_bool (tab_no hlt H0.out).symm, (hb.alloc hb.size _)⟩
      · have H0 := Lib.hid h0
        have Hto := Lib.hid hto
        have hg1 : decide ((0 : Int) < (k : Int)) = false := by simp; omega
        have hg2 : decide (0 < k) = false := by simp; omega
        clear h0 hsrc hto h3
        go_wp2_with (go_at_call 70; refine (amount_impl _ _).mono ?_; rintro e w' ⟨rfl, rfl⟩)
        go_quiet (fail)
        go_wp2
        go_roundw
        case rel => exact ⟨k + 1, by omega, by go_num, (hb.alloc hb.size _).drewN' _, by rw [okTo, Hto.out, H0.out]; rfl⟩
        case measure => simp [intOf]; omega
      · have H0 := Lib.hid h0
        have Hto := Lib.hid hto
        obtain ⟨hx', hy'⟩ := hsrc (k - 1) (by omega)
        have e1 := World.cell?_alloc_lt wr (.cells #[.int .i64 (X k), .int .i64 (Y k)] 188) ⟨g, o + (k - 1) * 2, none⟩ (cell_lt hx')
        have e2 := World.cell?_alloc_lt wr (.cells #[.int .i64 (X k), .int .i64 (Y k)] 188) ⟨g, o + (k - 1) * 2 + 1, none⟩ (cell_lt hy')
        rw [hx'] at e1
        rw [hy'] at e2
        have a1 : IntKind.i64.wrap ((k : Int) - 1) = (k : Int) - 1 := IntWalk.i64_in _ (by omega)
        have a2 : 1 ≤ (k : Int) := by omega
        have a3 : ((k : Int) - 1).toNat = k - 1 := by omega
        have a4 : 0 ≤ (k : Int) - 1 := by omega
        have a5 : (k : Int) - 1 < (n : Int) := by omega
        have a6 : 1 ≤ k := by omega
        have a7 : k < n + 1 := by omega
        clear h0 hsrc hto hx' hy'
        go_wp2_with (go_at_call 70; refine (amount_impl _ _).mono ?_; rintro e w' ⟨rfl, rfl⟩)
        go_quiet (fail)
        go_wp2
        go_ret
        exact ⟨ret_bool (tab_no hlt H0.out).symm, (hb.alloc hb.size _).drewN' _⟩
      · have H0 := Lib.hid h0
        have Hto := Lib.hid hto
        obtain ⟨hx', hy'⟩ := hsrc (k - 1) (by omega)
        have e1 := World.cell?_alloc_lt wr (.cells #[.int .i64 (X k), .int .i64 (Y k)] 188) ⟨g, o + (k - 1) * 2, none⟩ (cell_lt hx')
        have e2 := World.cell?_alloc_lt wr (.cells #[.int .i64 (X k), .int .i64 (Y k)] 188) ⟨g, o + (k - 1) * 2 + 1, none⟩ (cell_lt hy')
        rw [hx'] at e1
        rw [hy'] at e2
        have a1 : IntKind.i64.wrap ((k : Int) - 1) = (k : Int) - 1 := IntWalk.i64_in _ (by omega)
        have a2 : 1 ≤ (k : Int) := by omega
        have a3 : ((k : Int) - 1).toNat = k - 1 := by omega
        have a4 : 0 ≤ (k : Int) - 1 := by omega
        have a5 : (k : Int) - 1 < (n : Int) := by omega
        have a6 : 1 ≤ k := by omega
        have a7 : k < n + 1 := by omega
        clear h0 hsrc hto hx' hy'
        go_wp2_with (go_at_call 70; refine (amount_impl _ _).mono ?_; rintro e w' ⟨rfl, rfl⟩)
        go_quiet (fail)
        go_wp2
        go_ret
        exact ⟨ret_bool (tab_no hlt H0.out).symm, (hb.alloc hb.size _).drewN' _⟩
      · have H0 := Lib.hid h0
        have Hto := Lib.hid hto
        obtain ⟨hx', hy'⟩ := hsrc (k - 1) (by omega)
        have e1 := World.cell?_alloc_lt wr (.cells #[.int .i64 (X k), .int .i64 (Y k)] 188) ⟨g, o + (k - 1) * 2, none⟩ (cell_lt hx')
        have e2 := World.cell?_alloc_lt wr (.cells #[.int .i64 (X k), .int .i64 (Y k)] 188) ⟨g, o + (k - 1) * 2 + 1, none⟩ (cell_lt hy')
        rw [hx'] at e1
        rw [hy'] at e2
        have a1 : IntKind.i64.wrap ((k : Int) - 1) = (k : Int) - 1 := IntWalk.i64_in _ (by omega)
        have a2 : 1 ≤ (k : Int) := by omega
        have a3 : ((k : Int) - 1).toNat = k - 1 := by omega
        have a4 : 0 ≤ (k : Int) - 1 := by omega
        have a5 : (k : Int) - 1 < (n : Int) := by omega
        have a6 : 1 ≤ k := by omega
        have a7 : k < n + 1 := by omega
        clear h0 hsrc hto hx' hy'
        go_wp2_with (go_at_call 70; refine (amount_impl _ _).mono ?_; rintro e w' ⟨rfl, rfl⟩)
        go_quiet (fail)
        go_wp2
        go_roundw
        case rel => exact ⟨k + 1, by omega, by go_num, (hb.alloc hb.size _).drewN' _, by rw [okTo, Hto.out, H0.out]; rfl⟩
        case measure => simp [intOf]; omega
    · have H1 := Lib.hid (show tabOk n X Y = true by rw [tab_to (by rw [show n = k by omega]; exact hto)]; exact inB_yes (by omega) (by omega))
      clear hto
      go_wp2
      go_ret
      exact ⟨ret_bool H1.out.symm, hb⟩
end Go.Proofs.Ytngmpimoebggdaa.C1
