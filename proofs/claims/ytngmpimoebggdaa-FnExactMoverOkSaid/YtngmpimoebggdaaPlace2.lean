/- PlaceOf: the contracts of the program and of its model. -/
import Derived.Test.YtngmpimoebggdaaPlace
namespace Go.Proofs.Ytngmpimoebggdaa.C1
open Go.ChangeShapes Go.WideShapes Go.ChangeAt Go.RowKit
set_option linter.unusedVariables false

theorem ret_ib {a b : Int} {c d : Bool} (h : a = b) (h' : c = d) : Ending.returned (.tuple #[.int .i64 a, .bool c]) = .returned (.tuple #[.int .i64 b, .bool d]) := by rw [h, h']
set_option maxHeartbeats 1000000 in
theorem place_spec (A : Option Addr) (n cap : Nat) (y : Int) (w : World) (hn : n ≤ 1048576) (X Y : Nat → Int) (hp : Pts w A n X Y) :
    Calls Try.prog 194 #[.slice A n cap, .int .i64 y] w fun e w' => e = .returned (.tuple #[.int .i64 (placeZ n X Y y), .bool (placeB n X Y y)]) ∧ Below w.heap.size w w' := by
  cases ht : tabOk n X Y with
  | false =>
    have HB := Lib.hid (show placeB n X Y y = false by unfold placeB; rw [ht]; rfl)
    have HZ := Lib.hid (place_no HB.out)
    go_enter Try.func194, Try.ntmps194
    go_wp2_with fail
    refine (tab_spec _ _ _ _ hn X Y hp).mono ?_
    rintro e w1 ⟨rfl, hb1⟩
    go_wp2
    go_ret2
    exact ⟨ret_ib HZ.out.symm HB.out.symm, hb1⟩
  | true =>
    have T := tabP_of ht
    obtain ⟨t2, t20⟩ : 2 ≤ n ∧ n ≤ 20 := ⟨T.two, T.most⟩
    have x0 := T.x 0 (by omega)
    have x9 := T.x (n - 1) (by omega)
    have x09 := T.x_lt (i := 0) (j := n - 1) (by omega) (by omega)
    have HT := Lib.hid ht
    have HP := Lib.hid hp
    clear hp
    by_cases hy : y ≤ Y (n - 1)
    · have HB := Lib.hid (show placeB n X Y y = true by unfold placeB; rw [ht]; simp [hy])
      have HV := Lib.hid (show valZ n X Y (X (n - 1)) = Y (n - 1) from valZ_at ht (by omega))
      go_enter Try.func194, Try.ntmps194
      go_wp2_with fail
      refine (tab_spec _ _ _ _ hn X Y HP.out).mono ?_
      rintro e w1 ⟨rfl, hb1⟩
      obtain ⟨g, o, rfl, hc⟩ := (HP.out.below hb1) (by omega)
      obtain ⟨hx0, _⟩ := hc 0 (by omega)
      rw [Nat.zero_mul, Nat.add_zero] at hx0
      obtain ⟨hx1, hy1⟩ := hc (n - 1) (by omega)
      clear hc
      go_wp2
      go_loopw [6, 7] (fun l h wr => ∃ a b : Int, l = .int .i64 a ∧ h = .int .i64 b ∧ X 0 - 1 ≤ a ∧ a < b ∧ b ≤ X (n - 1) ∧ y ≤ valZ n X Y b ∧ (X 0 ≤ a → valZ n X Y a < y) ∧ Below w.heap.size w wr) (fun l h _ => (intOf h - intOf l).toNat)
      case atStart => exact ⟨_, _, rfl, rfl, by omega, by omega, by omega, by rw [HV.out]; exact hy, fun h => by omega, hb1⟩
      case round =>
        obtain ⟨a, b, rfl, rfl, ha, hab, hb, hvb, hva, hbl⟩ := hrel
        have Hva := Lib.hid hva
        clear hva
        by_cases hlt : 1 < b - a
        · by_cases hge : y ≤ valZ n X Y (a + (b - a) / 2)
          · go_wp2_with (go_at_call 215; refine (val_spec _ _ _ _ _ hn X Y (HP.out.below hbl)).mono ?_; rintro e w2 ⟨rfl, hb2⟩)
            go_roundw
            case rel => exact ⟨_, _, rfl, rfl, by omega, by omega, by omega, hge, Hva.out, hbl.trans (hb2.mono hbl.size)⟩
            case measure => simp [intOf]; omega
          · have hge' : valZ n X Y (a + (b - a) / 2) < y := by omega
            go_wp2_with (go_at_call 215; refine (val_spec _ _ _ _ _ hn X Y (HP.out.below hbl)).mono ?_; rintro e w2 ⟨rfl, hb2⟩)
            go_roundw
            case rel => exact ⟨_, _, rfl, rfl, by omega, by omega, by omega, hvb, fun _ => hge', hbl.trans (hb2.mono hbl.size)⟩
            case measure => simp [intOf]; omega
        · have HZ := Lib.hid (place_of HB.out (by omega : X 0 ≤ b) hb hvb (fun h => by rw [show b - 1 = a by omega]; exact Hva.out (by omega)))
          go_wp2
          go_ret2
          exact ⟨ret_ib HZ.out.symm HB.out.symm, hbl⟩
    · have hy' : Y (n - 1) < y := by omega
      have HB := Lib.hid (show placeB n X Y y = false by unfold placeB; rw [ht]; simp; omega)
      have HZ := Lib.hid (place_no HB.out)
      go_enter Try.func194, Try.ntmps194
      go_wp2_with fail
      refine (tab_spec _ _ _ _ hn X Y HP.out).mono ?_
      rintro e w1 ⟨rfl, hb1⟩
      obtain ⟨g, o, rfl, hc⟩ := (HP.out.below hb1) (by omega)
      obtain ⟨hx1, hy1⟩ := hc (n - 1) (by omega)
      clear hc
      go_wp2
      go_ret2
      exact ⟨ret_ib HZ.out.symm HB.out.symm, hb1⟩
theorem pmid_bd (a d r : Int) (ha : 0 < a) (har : a ≤ r) (hr : r ≤ 1000000000) (hd : 0 < d) (hd' : d ≤ 1000000000) :
    0 ≤ a * d ∧ a * d ≤ 1000000000000000000 ∧ 0 ≤ (a * d + r - 1) / r ∧ (a * d + r - 1) / r ≤ 1000000000 := by
  have p0 : 0 ≤ a * d := Int.mul_nonneg (by omega) (by omega)
  have p1 : a * d ≤ 1000000000 * 1000000000 := Int.mul_le_mul (by omega) hd' (by omega) (by omega)
  have p2 : a * d ≤ r * d := Int.mul_le_mul_of_nonneg_right har (by omega)
  refine ⟨p0, by omega, Int.ediv_nonneg (by omega) (by omega), ?_⟩
  have p3 : (a * d + r - 1) / r < d + 1 := (Int.ediv_lt_iff_lt_mul (by omega)).2 (by rw [Int.add_mul, Int.one_mul, Int.mul_comm d r]; omega)
  omega
set_option maxHeartbeats 1000000 in
theorem place_impl (A : Option Addr) (n cap : Nat) (y : Int) (w : World) (hn : n ≤ 1048576) (X Y : Nat → Int) (hp : Pts w A n X Y) :
    Calls Try.prog 217 #[.slice A n cap, .int .i64 y] w fun e w' => e = .returned (.tuple #[.int .i64 (placeZ n X Y y), .bool (placeB n X Y y)]) ∧ Below w.heap.size w w' := by
  cases ht : tabOk n X Y with
  | false =>
    have HB := Lib.hid (show placeB n X Y y = false by unfold placeB; rw [ht]; rfl)
    have HZ := Lib.hid (place_no HB.out)
    go_enter Try.func217, Try.ntmps217
    go_wp2_with fail
    refine (tab_impl _ _ _ _ hn X Y hp).mono ?_
    rintro e w1 ⟨rfl, hb1⟩
    go_wp2
    go_ret2
    exact ⟨ret_ib HZ.out.symm HB.out.symm, hb1⟩
  | true =>
    have T := tabP_of ht
    obtain ⟨t2, t20⟩ : 2 ≤ n ∧ n ≤ 20 := ⟨T.two, T.most⟩
    have HT := Lib.hid ht
    have HP := Lib.hid hp
    clear hp
    by_cases hy : y ≤ Y (n - 1)
    · have HB := Lib.hid (show placeB n X Y y = true by unfold placeB; rw [ht]; simp [hy])
      by_cases hlo : y ≤ Y 0
      · have HZ := Lib.hid (place_low ht hlo).2
        go_enter Try.func217, Try.ntmps217
        go_wp2_with fail
        refine (tab_impl _ _ _ _ hn X Y HP.out).mono ?_
        rintro e w1 ⟨rfl, hb1⟩
        obtain ⟨g, o, rfl, hc⟩ := (HP.out.below hb1) (by omega)
        obtain ⟨hx0, hy0⟩ := hc 0 (by omega)
        rw [Nat.zero_mul, Nat.add_zero] at hx0 hy0
        obtain ⟨hx1, hy1⟩ := hc (n - 1) (by omega)
        clear hc
        go_wp2
        go_ret2
        exact ⟨ret_ib HZ.out.symm HB.out.symm, hb1⟩
      have hlo' : Y 0 < y := by omega
      go_enter Try.func217, Try.ntmps217
      go_wp2_with fail
      refine (tab_impl _ _ _ _ hn X Y HP.out).mono ?_
      rintro e w1 ⟨rfl, hb1⟩
      obtain ⟨g, o, rfl, hc⟩ := (HP.out.below hb1) (by omega)
      have HC := Lib.hid hc
      obtain ⟨hx0, hy0⟩ := hc 0 (by omega)
      rw [Nat.zero_mul, Nat.add_zero] at hx0 hy0
      obtain ⟨hx1, hy1⟩ := hc (n - 1) (by omega)
      clear hc
      go_wp2
      go_loop [6] (fun i => ∃ k : Nat, k + 1 < n ∧ i = .int .i64 (k + 1) ∧ Y k < y) (fun i => n - (intOf i).toNat)
      case atStart => exact ⟨0, by omega, by go_num, by omega⟩
      case round =>
        obtain ⟨k, hk, rfl, hky⟩ := hrel
        obtain ⟨hx2, hy2⟩ := HC.out (k + 1) (by omega)
        by_cases hle : Y (k + 1) < y
        · have hkn : k + 1 + 1 < n := by
            rcases Nat.lt_or_ge (k + 1 + 1) n with h | h
            · exact h
            · exfalso
              rw [show n - 1 = k + 1 by omega] at hy
              omega
          go_wp2
          go_round
          case rel => exact ⟨k + 1, hkn, by go_num, hle⟩
          case measure => simp [intOf]; omega
        · have hge : y ≤ Y (k + 1) := by omega
          have HZ := Lib.hid (place_mid HT.out hk hky hge)
          obtain ⟨hx3, hy3⟩ := HC.out k (by omega)
          have hg := cell_lt hx3
          simp only at hg
          have e0 : ¬ g = w1.heap.size := by omega
          have e1 : ¬ g = w1.heap.size + 1 := by omega
          have g1 : g < w1.heap.size + 1 := by omega
          have g2 : g < w1.heap.size + 1 + 1 := by omega
          have xb := T.x k (by omega)
          have xb' := T.x (k + 1) hk
          have yb := T.y k (by omega)
          have yb' := T.y (k + 1) hk
          have xx := T.xs k hk
          obtain ⟨m0, m1, m2, m3⟩ := pmid_bd (y - Y k) (X (k + 1) - X k) (Y (k + 1) - Y k) (by omega) (by omega) (by omega) (by omega) (by omega)
          go_wp2
          go_region
          all_goals
            go_wp2
            go_quiet (fail)
            go_wp2
            go_ret2
            exact ⟨ret_ib HZ.out.symm HB.out.symm, (((hb1.alloc hb1.size _).alloc (by simp; have := hb1.size; omega) _).drew.drewN' _)⟩
    · have hy' : Y (n - 1) < y := by omega
      have HB := Lib.hid (show placeB n X Y y = false by unfold placeB; rw [ht]; simp; omega)
      have HZ := Lib.hid (place_no HB.out)
      go_enter Try.func217, Try.ntmps217
      go_wp2_with fail
      refine (tab_impl _ _ _ _ hn X Y HP.out).mono ?_
      rintro e w1 ⟨rfl, hb1⟩
      obtain ⟨g, o, rfl, hc⟩ := (HP.out.below hb1) (by omega)
      obtain ⟨hx1, hy1⟩ := hc (n - 1) (by omega)
      clear hc
      go_wp2
      go_ret2
      exact ⟨ret_ib HZ.out.symm HB.out.symm, hb1⟩
end Go.Proofs.Ytngmpimoebggdaa.C1
