/- The stable sort of indices by their remainders, the greatest first: slices.SortStableFunc on at most twenty elements. -/
import Derived.Test.YtngmpimoebggdaaSortM
import Derived.Test.YtngmpimoebggdaaRow
import Derived.Laws.MakeOwn
import Derived.Deep.OwnRows
import Derived.Deep.RegionHeld3
import Derived.RegionTactic
namespace Go.Proofs.Ytngmpimoebggdaa.C1
open Go.ChangeShapes Go.WideShapes Go.ChangeAt Go.RowKit Go.Proofs.Ytngmpimoebggdaa.ShareM
set_option linter.unusedVariables false

def cmpZ (x y : Int) : Int := if x < y then -1 else if y < x then 1 else 0
theorem nan_no (x : Int) (w : World) : Calls Try.prog 219 #[.int .i64 x] w fun e w' => e = .returned (.bool false) ∧ w = w' := by
  have t0 : (x != x) = false := by simp
  go_enter Try.func219, Try.ntmps219
  go_wp2
  go_ret
  exact ⟨rfl, rfl⟩
theorem compare (x y : Int) (w : World) : Calls Try.prog 206 #[.int .i64 x, .int .i64 y] w fun e w' => e = .returned (.int .i64 (cmpZ x y)) ∧ w = w' := by
  have H0 := Lib.hid (show x < y → cmpZ x y = -1 from fun h => if_pos h)
  have H1 := Lib.hid (show ¬ x < y → y < x → cmpZ x y = 1 from fun h h' => by unfold cmpZ; rw [if_neg h, if_pos h'])
  have H2 := Lib.hid (show ¬ x < y → ¬ y < x → cmpZ x y = 0 from fun h h' => by unfold cmpZ; rw [if_neg h, if_neg h'])
  by_cases h0 : x < y
  · go_enter Try.func206, Try.ntmps206
    go_wp2_with fail
    refine (nan_no x _).mono ?_; rintro e w' ⟨rfl, rfl⟩
    go_wp2_with fail
    refine (nan_no y _).mono ?_; rintro e w' ⟨rfl, rfl⟩
    go_wp2
    go_ret
    exact ⟨by rw [H0.out h0]; rfl, rfl⟩
  · have h0' : y ≤ x := by omega
    by_cases h1 : y < x
    · go_enter Try.func206, Try.ntmps206
      go_wp2_with fail
      refine (nan_no x _).mono ?_; rintro e w' ⟨rfl, rfl⟩
      go_wp2_with fail
      refine (nan_no y _).mono ?_; rintro e w' ⟨rfl, rfl⟩
      go_wp2
      go_ret
      exact ⟨by rw [H1.out h0 h1]; rfl, rfl⟩
    · have h1' : x ≤ y := by omega
      go_enter Try.func206, Try.ntmps206
      go_wp2_with fail
      refine (nan_no x _).mono ?_; rintro e w' ⟨rfl, rfl⟩
      go_wp2_with fail
      refine (nan_no y _).mono ?_; rintro e w' ⟨rfl, rfl⟩
      go_wp2
      go_ret
      exact ⟨by rw [H2.out h0 h1]; rfl, rfl⟩
theorem quiet_same {P : Program} {f : FuncId} {args : Array Value} {w : World} {n : Nat} {v : Value}
    (h : Calls P f args (w.drewN n) fun e w' => e = .returned v ∧ w.drewN n = w') : Calls P f args (w.drewN n) fun e w'' => e = .returned v ∧ ∃ m, w'' = w.drewN m :=
  h.mono fun _ _ ⟨he, hm⟩ => ⟨he, n, hm.symm⟩
theorem quiet_more {P : Program} {f : FuncId} {args : Array Value} {w : World} {a n : Nat} {v : Value}
    (h : Calls P f args (w.drewN (a + n)) fun e w' => e = .returned v ∧ ∃ m, w' = (w.drewN (a + n)).drewN m) : Calls P f args (w.drewN (a + n)) fun e w'' => e = .returned v ∧ ∃ m, w'' = w.drewN (a + m) :=
  h.mono fun _ _ ⟨he, m, hm⟩ => ⟨he, n + m, by rw [hm, World.drewN_drewN, Nat.add_assoc]⟩
theorem only_drewN {a w : World} {row : Option Nat} (h : a.grownBy w row) (n : Nat) : a.grownBy (w.drewN n) row := ⟨h.os, h.tape, h.output, h.size, h.block⟩
/-- What the comparison looks at: the box with the slice of remainders, and these. -/
def SBox (w : World) (B gr n c : Nat) (r : Nat → Int) : Prop := w.cell? ⟨B, 0, none⟩ = some (.slice (some ⟨gr, 0, none⟩) n c) ∧ ∀ i, i < n → w.cell? ⟨gr, i, none⟩ = some (.int .i64 (r i))
theorem SBox.drewN {w : World} {B gr n c : Nat} {r : Nat → Int} (h : SBox w B gr n c r) (k : Nat) : SBox (w.drewN k) B gr n c r := h
theorem SBox.far {w w' : World} {B gr n c g : Nat} {r : Nat → Int} (h : SBox w B gr n c r) (hg : w.grownBy w' (some g)) (h1 : B ≠ g) (h2 : gr ≠ g) : SBox w' B gr n c r :=
  ⟨hg.cell h.1 (by intro e; injection e with e; exact h1 e), fun i hi => hg.cell (h.2 i hi) (by intro e; injection e with e; exact h2 e)⟩
theorem closure (B gr n c a b : Nat) (r : Nat → Int) (w : World) (hn : n ≤ 20) (ha : a < n) (hb : b < n) (h : SBox w B gr n c r) :
    Calls Try.prog 205 #[.int .i64 (a : Int), .int .i64 (b : Int), .pointer (some ⟨B, 0, none⟩)] w fun e w' => e = .returned (.int .i64 (cmpZ (r b) (r a))) ∧ ∃ q, w' = w.drewN q := by
  obtain ⟨h0, h1⟩ := h
  have ca := h1 a ha
  have cb := h1 b hb
  clear h1
  go_enter Try.func205, Try.ntmps205
  go_wp2
  go_quiet ((go_at_call 206; exact quiet_same (compare _ _ _)))
  go_wp2
  go_ret
  exact ⟨rfl, _, rfl⟩
theorem swap_row {w : World} {g n m i : Nat} {t : TypeId} {D : Nat → Nat} (h : w.rowIs g t n (fun p => .int .i64 (D p : Int))) (hat : D (m + 1) = i) (k : Nat) :
    (((w.drewN k).setCell ⟨g, m + 1, none⟩ (.int .i64 (D m : Int))).setCell ⟨g, m, none⟩ (.int .i64 (i : Int))).rowIs g t n (fun p => .int .i64 (swap D m p : Int)) := by
  have h0 : (w.drewN k).rowIs g t n (fun p => .int .i64 (D p : Int)) := h
  refine ((h0.set (m + 1) _).set m _).congr fun p hp => ?_
  unfold swap
  by_cases e1 : p = m
  · rw [if_pos e1, if_pos e1, hat]
  · rw [if_neg e1, if_neg e1]
    by_cases e2 : p = m + 1
    · rw [if_pos e2, if_pos e2]
    · rw [if_neg e2, if_neg e2]
set_option maxHeartbeats 2000000 in
theorem insertion (g B gr n c : Nat) (r : Nat → Int) (w : World) (hn : n ≤ 12) (hB : B ≠ g) (hgr : gr ≠ g) (hbox : SBox w B gr n c r) (hrow : w.rowIs g 3 n (fun p => .int .i64 (p : Int))) :
    Calls Try.prog 222 #[.slice (some ⟨g, 0, none⟩) n n, .int .i64 0, .int .i64 (n : Int), .func (.func 205) #[] #[.pointer (some ⟨B, 0, none⟩)]] w
      fun e w' => (∃ D, Ord r n D ∧ w'.rowIs g 3 n (fun p => .int .i64 (D p : Int))) ∧ e = .returned (.tuple #[]) ∧ w.grownBy w' (some g) := by
  have HX := Lib.hid hbox
  have HR := Lib.hid hrow
  clear hbox hrow
  go_enter Try.func222, Try.ntmps222
  go_wp2
  go_loopw [8] (fun ii wr => ∃ (i : Nat) (D : Nat → Nat), ii = .int .i64 (i : Int) ∧ 1 ≤ i ∧ (i ≤ n ∨ n = 0 ∧ i = 1) ∧ Hid (Pre r n i D) ∧ wr.rowIs g 3 n (fun p => .int .i64 (D p : Int)) ∧ w.grownBy wr (some g)) (fun ii _ => n + 1 - (intOf ii).toNat)
  case atStart => exact ⟨1, fun p => p, rfl, by omega, by omega, pre_one r n, HR.out, World.grownBy.refl _ _⟩
  case round =>
    obtain ⟨i, D, rfl, hi1, hin, HP, hrow, hgrow⟩ := hrel
    by_cases hlt : i < n
    · have HM := Lib.hid (HP.start hlt)
      obtain ⟨wo, rfl⟩ : ∃ wo : World, wo = wr := ⟨_, rfl⟩
      go_wp2
      go_loopw [9] (fun jj wi => ∃ (j : Nat) (D : Nat → Nat), jj = .int .i64 (j : Int) ∧ Hid (Mid r n i j D) ∧ wi.rowIs g 3 n (fun p => .int .i64 (D p : Int)) ∧ w.grownBy wi (some g)) (fun jj _ => (intOf jj).toNat)
      case atStart => exact ⟨i, D, rfl, HM.out, hrow, hgrow⟩
      case round =>
        rename_i wi _
        clear HM hrow hgrow HP
        obtain ⟨j, D, rfl, HM, hrow, hgrow⟩ := hrel
        have hji := HM.le
        have HO := Lib.hid hrow
        have HG := Lib.hid hgrow
        clear hgrow
        by_cases hj : j = 0
        · have HS := Lib.hid (HM.stop (Or.inl hj))
          subst hj
          clear hrow
          go_wp2
          go_quiet (fail)
          go_wp2
          go_roundw
          case rel => exact ⟨i + 1, D, by go_num, by omega, by omega, HS.out, HO.out, only_drewN HG.out _⟩
          case measure => simp [intOf]; omega
        · obtain ⟨m, rfl⟩ : ∃ m, j = m + 1 := ⟨j - 1, by omega⟩
          have hmn : m + 1 < n := by omega
          have c0 := hrow.cell (i := m) (by omega)
          have c1 := hrow.cell hmn
          rw [HM.at_] at c1
          have z0 := hrow.frozen m
          have z1 := hrow.frozen (m + 1)
          have hDm := HM.at_lt hlt (p := m) (by omega)
          have hbx := HX.out.far HG.out hB hgr
          have HBX := Lib.hid hbx
          clear hj hrow hbx
          by_cases hr : r (D m) < r i
          · have HS := Lib.hid (HM.step hr)
            have hc : cmpZ (r (D m)) (r i) = -1 := by unfold cmpZ; rw [if_pos hr]
            clear hr
            have i0 : (0 : Int) ≤ (m : Int) := by omega
            have i1 : (m : Int) < (n : Int) := by omega
            have i2 : (0 : Int) ≤ (m : Int) + 1 := by omega
            have i3 : (m : Int) + 1 < (n : Int) := by omega
            go_wp2
            go_quiet ((go_at_call 205; exact Calls.quiet_of (closure B gr n c i (D m) r _ (by omega) hlt hDm (HBX.out.drewN _))))
            go_wp2
            have w0 : IntKind.i64.wrap (m : Int) = (m : Int) := IntWalk.i64_in _ (by omega)
            have w1 : IntKind.i64.wrap ((m : Int) + 1) = (m : Int) + 1 := IntWalk.i64_in _ (by omega)
            go_region
            all_goals
              go_wp2
              go_roundw
              case rel => exact ⟨m, swap D m, rfl, HS.out, swap_row HO.out HM.at_ _, grown_set (grown_set (only_drewN HG.out _))⟩
              case measure => simp [intOf]
          · have HS := Lib.hid (HM.stop (Or.inr ⟨m, rfl, by omega⟩))
            have hc : 0 ≤ cmpZ (r (D m)) (r i) := by unfold cmpZ; rw [if_neg hr]; split <;> omega
            clear hr
            go_wp2
            go_quiet ((go_at_call 205; exact Calls.quiet_of (closure B gr n c i (D m) r _ (by omega) hlt hDm (HBX.out.drewN _))))
            go_wp2
            go_roundw
            case rel => exact ⟨i + 1, D, by go_num, by omega, by omega, HS.out, HO.out, only_drewN HG.out _⟩
            case measure => simp [intOf]; omega
    · have hO : Ord r n D := by
        rcases hin with h | ⟨h, _⟩
        · obtain rfl : i = n := by omega
          exact HP.ord
        · subst h
          exact ⟨fun p q h1 h2 => by omega, fun p h => by omega, fun v h => by omega⟩
      have HO := Lib.hid hO
      clear hO HP hin
      go_wp2
      go_end0
      exact ⟨⟨D, HO.out, hrow⟩, rfl, hgrow⟩
theorem stable (g B gr n c : Nat) (r : Nat → Int) (w : World) (hn : n ≤ 12) (hB : B ≠ g) (hgr : gr ≠ g) (hbox : SBox w B gr n c r) (hrow : w.rowIs g 3 n (fun p => .int .i64 (p : Int))) :
    Calls Try.prog 218 #[.slice (some ⟨g, 0, none⟩) n n, .int .i64 (n : Int), .func (.func 205) #[] #[.pointer (some ⟨B, 0, none⟩)]] w
      fun e w' => (∃ D, Ord r n D ∧ w'.rowIs g 3 n (fun p => .int .i64 (D p : Int))) ∧ e = .returned (.tuple #[]) ∧ w.grownBy w' (some g) := by
  have HX := Lib.hid hbox
  have HR := Lib.hid hrow
  clear hbox hrow
  have hn20 : (n : Int) < 20 := by omega
  go_enter Try.func218, Try.ntmps218
  go_wp2
  go_loopw [7, 8] (fun a b wr => a = .int .i64 0 ∧ b = .int .i64 20 ∧ wr = w) (fun _ _ _ => 0)
  case atStart => exact ⟨rfl, rfl, rfl⟩
  case round =>
    obtain ⟨rfl, rfl, rfl⟩ := hrel
    go_wp2_with fail
    refine (insertion g B gr n c r _ hn hB hgr HX.out HR.out).mono ?_
    rintro e w1 ⟨⟨D, hD, hrow⟩, rfl, hg⟩
    have HD := Lib.hid hD
    have HW := Lib.hid hrow
    have HG := Lib.hid hg
    clear hD hrow hg
    go_wp2
    go_loopw [6] (fun s wr => s = .int .i64 20 ∧ wr = w1) (fun _ _ => 0)
    case atStart => exact ⟨rfl, rfl⟩
    case round =>
      obtain ⟨rfl, rfl⟩ := hrel
      go_wp2
      go_end0
      exact ⟨⟨D, HD.out, HW.out⟩, rfl, HG.out⟩
theorem sortStable (g B gr n c : Nat) (r : Nat → Int) (w : World) (hn : n ≤ 12) (hB : B ≠ g) (hgr : gr ≠ g) (hbox : SBox w B gr n c r) (hrow : w.rowIs g 3 n (fun p => .int .i64 (p : Int))) :
    Calls Try.prog 204 #[.slice (some ⟨g, 0, none⟩) n n, .func (.func 205) #[] #[.pointer (some ⟨B, 0, none⟩)]] w
      fun e w' => (∃ D, Ord r n D ∧ w'.rowIs g 3 n (fun p => .int .i64 (D p : Int))) ∧ e = .returned (.tuple #[]) ∧ w.grownBy w' (some g) := by
  have HX := Lib.hid hbox
  have HR := Lib.hid hrow
  clear hbox hrow
  go_enter Try.func204, Try.ntmps204
  go_wp2_with fail
  refine (stable g B gr n c r _ hn hB hgr HX.out HR.out).mono ?_
  rintro e w1 ⟨⟨D, hD, hrow⟩, rfl, hg⟩
  have HD := Lib.hid hD
  have HW := Lib.hid hrow
  have HG := Lib.hid hg
  clear hD hrow hg
  go_wp2
  go_end0
  exact ⟨⟨D, HD.out, HW.out⟩, rfl, HG.out⟩
end Go.Proofs.Ytngmpimoebggdaa.C1
