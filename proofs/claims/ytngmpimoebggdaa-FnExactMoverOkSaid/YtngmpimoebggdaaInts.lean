/- Slices of integers: the conversion of a law's argument, the law's own comparison, its marking and its look back. -/
import Derived.Test.YtngmpimoebggdaaRow
import Derived.Deep.OwnRows
import Derived.Deep.QuietTactic
import Derived.BigQuiet
namespace Go.Proofs.Ytngmpimoebggdaa.C1
open Go.ChangeShapes Go.WideShapes Go.ChangeAt Go.RowKit
set_option linter.unusedVariables false

/-- A slice of integers, wherever it lies. -/
def SrcI (w : World) (A : Option Addr) (n : Nat) (W : Nat → Int) : Prop := 0 < n → ∃ ad, A = some ad ∧ ∀ i, i < n → w.cell? (ad.add i) = some (.int .i64 (W i))
theorem src_int {w : World} {A : Option Addr} {n : Nat} {f : Nat → Int} (h : 0 < n → ∃ ad, A = some ad ∧ ∀ i, i < n → w.cell? (ad.add i) = some (.int .i64 (f i)) ∧ (Lit.int .i64 (f i)).wf = true) : SrcI w A n f := fun hn => by
  obtain ⟨ad, e, hc⟩ := h hn
  exact ⟨ad, e, fun i hi => (hc i hi).1⟩
theorem SrcI.below {w w' : World} {A : Option Addr} {n : Nat} {W : Nat → Int} (h : SrcI w A n W) (hb : Below w.heap.size w w') : SrcI w' A n W := fun hn => by
  obtain ⟨ad, e, hc⟩ := h hn
  exact ⟨ad, e, fun i hi => (hb.cell (World.block_lt_of_cell? _ _ (hc i hi))).trans (hc i hi)⟩
/-- A slice of integers at the head of block g (any block, if it is empty). -/
def RowI (w : World) (A : Option Addr) (n g : Nat) (W : Nat → Int) : Prop := (0 < n → A = some ⟨g, 0, none⟩) ∧ ∀ i, i < n → w.cell? ⟨g, i, none⟩ = some (.int .i64 (W i))
/-- It may be written. -/
def Free (w : World) (n g : Nat) : Prop := ∀ i, i < n → w.frozen? ⟨g, i, none⟩ = false
theorem RowI.of_row {w : World} {g n : Nat} {W : Nat → Int} (h : w.rowIs g 3 n (fun i => .int .i64 (W i))) : RowI w (some ⟨g, 0, none⟩) n g W ∧ Free w n g := ⟨⟨fun _ => rfl, fun i hi => h.cell hi⟩, fun i hi => h.frozen i⟩
theorem RowI.lt {w : World} {A : Option Addr} {n g i : Nat} {W : Nat → Int} (h : RowI w A n g W) (hi : i < n) : g < w.heap.size := World.block_lt_of_cell? _ _ (h.2 i hi)
theorem RowI.below {w w' : World} {A : Option Addr} {n g : Nat} {W : Nat → Int} (h : RowI w A n g W) (hb : Below w.heap.size w w') : RowI w' A n g W := ⟨h.1, fun i hi => (hb.cell (h.lt hi)).trans (h.2 i hi)⟩
theorem Free.below {w w' : World} {n g : Nat} (h : Free w n g) (hl : 0 < n → g < w.heap.size) (hb : Below w.heap.size w w') : Free w' n g := fun i hi => (hb.frozen (hl (by omega))).trans (h i hi)
theorem RowI.other {w w' : World} {A : Option Addr} {n g k : Nat} {W : Nat → Int} (h : RowI w A n g W) (hb : w.grownBy w' (some k)) (hne : 0 < n → g ≠ k) : RowI w' A n g W :=
  ⟨h.1, fun i hi => hb.cell (h.2 i hi) (by intro e; injection e with e; exact hne (by omega) e)⟩
theorem Free.other {w w' : World} {n g k : Nat} (h : Free w n g) (hl : 0 < n → g < w.heap.size) (hb : w.grownBy w' (some k)) (hne : 0 < n → g ≠ k) : Free w' n g := fun i hi => by
  have e := hb.block g (hl (by omega)) (by intro e; injection e with e; exact hne (by omega) e)
  have := h i hi
  unfold World.frozen? at *
  rw [e]; exact this
theorem RowI.congr {w : World} {A : Option Addr} {n g : Nat} {W V : Nat → Int} (h : RowI w A n g W) (e : ∀ i, i < n → W i = V i) : RowI w A n g V := ⟨h.1, fun i hi => by rw [← e i hi]; exact h.2 i hi⟩
theorem mkI (n : Nat) (hn : n ≤ 1048576) : ∀ W : World, (Instr.makeSlice 47 (.int .i64 (n : Int)) (.int .i64 (n : Int))).run Try.prog W = .ok (.slice (some ⟨W.heap.size, 0, none⟩) n n) (W.alloc (.cells (madeCells #[.int .i64 0] n) 3)) := fun W =>
  run_make_row' 47 3 (.int .i64 0) 8 Try.underlying47 (by kernel_rfl) rfl .i64 .i64 n (by omega) (by omega) W
theorem toIntS (A : Option Addr) (n cap : Nat) (w : World) (hn : n ≤ 1048576) (X : Nat → Int) (hp : SrcI w A n X) :
    Calls Try.prog 56 #[.slice A n cap] w fun e w' => e = .returned (.slice (some ⟨w.heap.size, 0, none⟩) n n) ∧ Below w.heap.size w w' ∧ w'.rowIs w.heap.size 3 n (fun i => .int .i64 (X i)) := by
  have hmk := mkI n hn
  have HP := Lib.hid hp
  have HR := Lib.hid (World.rowIs_made w (.int .i64 0) n 3)
  clear hp
  go_enter Try.func56, Try.ntmps56
  go_wp2
  clear hmk
  go_loopw [4] (fun i wr => ∃ k : Nat, k ≤ n ∧ i = .int .i64 k ∧ Below w.heap.size w wr ∧ wr.rowIs w.heap.size 3 n (fun j => if j < k then .int .i64 (X j) else .int .i64 0)) (fun i _ => n - (intOf i).toNat)
  case atStart => exact ⟨0, by omega, rfl, (Below.refl _ _).alloc (Nat.le_refl _) _, HR.out.congr fun j hj => (if_neg (by omega)).symm⟩
  case round =>
    obtain ⟨k, hk, rfl, hb, hrow⟩ := hrel
    have HB := Lib.hid hb
    have HW := Lib.hid hrow
    by_cases hlt : k < n
    · obtain ⟨ad, rfl, hsrc⟩ := HP.out.below hb (by omega)
      have c0 := hsrc k hlt
      have z0 := hrow.frozen k
      obtain ⟨u, c1⟩ : ∃ u, wr.cell? ⟨w.heap.size, k, none⟩ = some u := ⟨_, hrow.cell hlt⟩
      clear hsrc hb hrow
      go_wp2
      go_roundw
      case rel =>
        refine ⟨k + 1, by omega, by go_num, HB.out.setCell (Nat.le_refl _) _, (HW.out.set _ _).congr fun j hj => ?_⟩
        by_cases e0 : j = k
        · subst e0; rw [if_pos rfl, if_pos (by omega)]
        · rw [if_neg e0]
          by_cases e2 : j < k
          · rw [if_pos e2, if_pos (by omega)]
          · rw [if_neg e2, if_neg (by omega)]
      case measure => simp [intOf]; omega
    · clear hb hrow
      go_wp2
      go_ret
      exact ⟨rfl, HB.out, HW.out.congr fun j hj => if_pos (by omega)⟩
theorem eqIntS (A A' : Option Addr) (n cap cap' g g' : Nat) (w : World) (hn : n ≤ 1048576) (X : Nat → Int) (hp : RowI w A n g X) (hp' : RowI w A' n g' X) :
    Calls Try.prog 46 #[.slice A n cap, .slice A' n cap'] w fun e w' => e = .returned (.bool true) ∧ Below w.heap.size w w' := by
  have HP := Lib.hid hp
  have HP' := Lib.hid hp'
  clear hp hp'
  go_enter Try.func46, Try.ntmps46
  go_wp2
  go_loopw [5] (fun i wr => ∃ k : Nat, k ≤ n ∧ i = .int .i64 k ∧ ∃ q, wr = w.drewN q) (fun i _ => n - (intOf i).toNat)
  case atStart => exact ⟨0, by omega, rfl, 0, rfl⟩
  case round =>
    obtain ⟨k, hk, rfl, q, rfl⟩ := hrel
    by_cases hlt : k < n
    · obtain rfl := HP.out.1 (by omega)
      obtain rfl := HP'.out.1 (by omega)
      have c0 := HP.out.2 k hlt
      have c1 := HP'.out.2 k hlt
      go_wp2
      go_quiet (fail)
      go_wp2
      go_roundw
      case rel => exact ⟨k + 1, by omega, by go_num, _, rfl⟩
      case measure => simp [intOf]; omega
    · go_wp2
      go_ret
      exact ⟨rfl, (Below.refl _ _).drewN' _⟩
theorem markIntS (A : Option Addr) (n c g K : Nat) (X : Nat → Int) (w : World) (hn : n ≤ 1048576) (hK : K ≤ 1000000000) (ha : RowI w A n g X) (hf : Free w n g) :
    Calls Try.prog 48 #[.slice A n c, .int .i64 (K : Int)] w fun e w' => e = .returned (.int .i64 ((K + n : Nat) : Int)) ∧ RowI w' A n g (fun i => ((K + i : Nat) : Int)) ∧ Free w' n g ∧ w.grownBy w' (some g) := by
  have HA := Lib.hid ha
  have HF := Lib.hid hf
  clear ha hf
  go_enter Try.func48, Try.ntmps48
  go_wp2
  go_loopw [1, 5] (fun m i wr => ∃ k : Nat, k ≤ n ∧ i = .int .i64 k ∧ m = .int .i64 ((K + k : Nat) : Int) ∧ Hid (RowI wr A n g (fun i => if i < k then ((K + i : Nat) : Int) else X i)) ∧ Hid (Free wr n g) ∧ w.grownBy wr (some g)) (fun _ i _ => n - (intOf i).toNat)
  case atStart => exact ⟨0, by omega, rfl, rfl, HA.out.congr fun i hi => (if_neg (by omega)).symm, HF.out, World.grownBy.refl _ _⟩
  case round =>
    obtain ⟨k, hk, rfl, rfl, H1, H2, hgr⟩ := hrel
    have HG := Lib.hid hgr
    clear hgr
    by_cases hlt : k < n
    · obtain rfl := HA.out.1 (by omega)
      have c0 := H1.out.2 k hlt
      have z0 := H2.out k hlt
      have HC := Lib.hid c0
      have hw : IntKind.i64.wrap ((K + k : Nat) : Int) = ((K + k : Nat) : Int) := IntWalk.i64_in _ (by omega)
      go_wp2
      go_roundw
      case rel =>
        refine ⟨k + 1, by omega, by go_num, congrArg (Value.int .i64) (by omega), ⟨fun _ => rfl, fun i hi => ?_⟩, fun i hi => (by rw [World.frozen?_setCell]; exact H2.out i hi), grown_set HG.out⟩
        by_cases e : i = k
        · subst e
          show _ = some (Value.int .i64 (if i < i + 1 then ((K + i : Nat) : Int) else X i))
          rw [if_pos (by omega), Int.natCast_add]
          exact World.cell?_setCell_same _ _ _ HC.out
        · refine ((World.cell?_setCell_other _ _ _ _ (by intro h; injection h with _ h; exact e h.symm)).trans (H1.out.2 i hi)).trans ?_
          show some (Value.int .i64 (if i < k then ((K + i : Nat) : Int) else X i)) = some (Value.int .i64 (if i < k + 1 then ((K + i : Nat) : Int) else X i))
          by_cases e2 : i < k
          · rw [if_pos e2, if_pos (by omega)]
          · rw [if_neg e2, if_neg (by omega)]
      case measure => simp [intOf]; omega
    · obtain rfl : k = n := by omega
      go_wp2
      go_ret
      exact ⟨rfl, H1.out.congr fun i hi => if_pos hi, H2.out, HG.out⟩
theorem heldIntS (A : Option Addr) (n c g K : Nat) (w : World) (hn : n ≤ 1048576) (hK : K ≤ 1000000000) (ha : RowI w A n g (fun i => ((K + i : Nat) : Int))) :
    Calls Try.prog 49 #[.slice A n c, .int .i64 (K : Int)] w fun e w' => e = .returned (.int .i64 ((K + n : Nat) : Int)) ∧ Below w.heap.size w w' := by
  have HA := Lib.hid ha
  clear ha
  go_enter Try.func49, Try.ntmps49
  go_wp2
  go_loopw [1, 5] (fun m i wr => ∃ k : Nat, k ≤ n ∧ i = .int .i64 k ∧ m = .int .i64 ((K + k : Nat) : Int) ∧ ∃ q, wr = w.drewN q) (fun _ i _ => n - (intOf i).toNat)
  case atStart => exact ⟨0, by omega, rfl, rfl, 0, rfl⟩
  case round =>
    obtain ⟨k, hk, rfl, rfl, q, rfl⟩ := hrel
    by_cases hlt : k < n
    · obtain rfl := HA.out.1 (by omega)
      have c0 := HA.out.2 k hlt
      have hw : IntKind.i64.wrap ((K + k : Nat) : Int) = ((K + k : Nat) : Int) := IntWalk.i64_in _ (by omega)
      go_wp2
      go_roundw
      case rel => exact ⟨k + 1, by omega, by go_num, congrArg (Value.int .i64) (by omega), _, rfl⟩
      case measure => simp [intOf]; omega
    · obtain rfl : k = n := by omega
      go_wp2
      go_ret
      exact ⟨rfl, (Below.refl _ _).drewN' _⟩
end Go.Proofs.Ytngmpimoebggdaa.C1
