/- Slices of pauses: the conversion of a law's argument, and the law's own comparison. -/
import Derived.Test.YtaacgajpjkfplaaTab
import Derived.Test.YtaacgajpjkfplaaPsM
import Derived.StillTailTactics
namespace Go.Proofs.Ytaacgajpjkfplaa.C1
open Go.ChangeShapes Go.WideShapes Go.ChangeAt Go.RowKit
set_option linter.unusedVariables false

theorem toPause (x y : Int) (w : World) :
    Calls Try.prog 50 #[.agg #[.int .i64 x, .int .i64 y]] w fun e w' => e = .returned (.agg #[.int .i64 x, .int .i64 y]) ∧ Below w.heap.size w w' := by
  go_enter Try.func50, Try.ntmps50
  go_wp2
  exact bodyPost_ret (v := .agg #[.int .i64 x, .int .i64 y]) (by simp [results, Try.results50, go_sem]) rfl ⟨rfl, (((Below.refl _ _).alloc (Nat.le_refl _) _).alloc (by simp) _).alloc (by simp; omega) _⟩
theorem infoPs : (Try.prog.info? 64).map (fun i => (i.zero, i.size, i.bytes)) = some (some (.agg #[.int .i64 0, .int .i64 0]), 2, 16) := by kernel_rfl
set_option maxHeartbeats 400000 in
theorem toPauseS (A : Option Addr) (n cap : Nat) (w : World) (hn : n ≤ 1048576) (X Y : Nat → Int) (hp : SrcPts w A n X Y) :
    Calls Try.prog 39 #[.slice A n cap] w fun e w' => e = .returned (.slice (some ⟨w.heap.size, 0, none⟩) n n) ∧ Below w.heap.size w w' ∧ w'.rowIs w.heap.size 64 (n * 2) (ptc X Y) := by
  obtain ⟨i0, hi, hz0, hz1, hz2⟩ := info_parts infoPs
  have hmk := make_eq (P := Try.prog) 32 64 i0 _ 2 16 Try.underlying32 hi hz0 hz1 hz2 n (by omega) (by omega)
  go_enter Try.func39, Try.ntmps39
  go_wp2
  clear hmk hi hz0 hz1 hz2
  go_loopw [4] (fun i wr => ∃ k : Nat, k ≤ n ∧ i = .int .i64 k ∧ Below w.heap.size w wr ∧ wr.rowIs w.heap.size 64 (n * 2) (fun j => if j < k * 2 then ptc X Y j else .int .i64 0)) (fun i _ => n - (intOf i).toNat)
  case atStart =>
    refine ⟨0, by omega, rfl, (Below.refl _ _).alloc (Nat.le_refl _) _, ?_⟩
    have h := World.rowIs_alloc w (madeCells #[.int .i64 0, .int .i64 0] (n * 2)) 64 (fun j => if j < 0 * 2 then ptc X Y j else .int .i64 0) (fun i hi => by
      rw [size_madeCells] at hi
      have : i % 2 = 0 ∨ i % 2 = 1 := by omega
      rcases this with h | h <;> simp [madeCells, hi, h])
    rw [size_madeCells] at h
    exact h
  case round =>
    obtain ⟨k, hk, rfl, hb, hrow⟩ := hrel
    by_cases hlt : k < n
    · obtain ⟨ad, rfl, hsrc⟩ := hp.below hb (by omega)
      obtain ⟨hx, hy⟩ := hsrc k hlt
      clear hsrc
      have hz := hrow.lt
      go_wp2_with (go_at_call 50; refine (toPause _ _ _).mono ?_; rintro e w1 ⟨rfl, hb1⟩; have hrow1 := hrow.of_block (hb1.block _ hz); obtain ⟨u0, c0⟩ : ∃ u, w1.cell? ⟨w.heap.size, k * 2, none⟩ = some u := ⟨_, hrow1.cell (by omega)⟩; obtain ⟨u1, c1⟩ : ∃ u, w1.cell? ⟨w.heap.size, k * 2 + 1, none⟩ = some u := ⟨_, hrow1.cell (by omega)⟩; have z0 := hrow1.frozen (k * 2); have z1 := hrow1.frozen (k * 2 + 1))
      go_roundw
      case rel =>
        refine ⟨k + 1, by omega, by go_num, ((hb.trans (hb1.mono (by omega))).setCell (Nat.le_refl _) _).setCell (Nat.le_refl _) _, ((hrow1.set _ _).set _ _).congr fun j hj => ?_⟩
        by_cases e1 : j = k * 2 + 1
        · subst e1; rw [if_pos rfl, if_pos (by omega), ptc_y]
        · rw [if_neg e1]
          by_cases e0 : j = k * 2
          · subst e0; rw [if_pos rfl, if_pos (by omega), ptc_x]
          · rw [if_neg e0]
            by_cases e2 : j < k * 2
            · rw [if_pos e2, if_pos (by omega)]
            · rw [if_neg e2, if_neg (by omega)]
      case measure => simp [intOf]; omega
    · go_wp2
      go_ret
      exact ⟨rfl, hb, hrow.congr fun j hj => if_pos (by omega)⟩
theorem eqPause (x y : Int) (w : World) :
    Calls Try.prog 51 #[.agg #[.int .i64 x, .int .i64 y], .agg #[.int .i64 x, .int .i64 y]] w fun e w' => e = .returned (.bool true) ∧ Below w.heap.size w w' := by
  go_enter Try.func51, Try.ntmps51
  go_wp2
  go_ret
  exact ⟨rfl, ((Below.refl _ _).alloc (Nat.le_refl _) _).alloc (by simp) _⟩
set_option maxRecDepth 100000 in
set_option maxHeartbeats 400000 in
theorem eqPauseS (A A' : Option Addr) (n cap cap' : Nat) (w : World) (hn : n ≤ 1048576) (X Y : Nat → Int) (hp : Pts w A n X Y) (hp' : Pts w A' n X Y) :
    Calls Try.prog 40 #[.slice A n cap, .slice A' n cap'] w fun e w' => e = .returned (.bool true) ∧ Below w.heap.size w w' := by
  go_enter Try.func40, Try.ntmps40
  go_wp2
  go_loopw [5] (fun i wr => ∃ k : Nat, k ≤ n ∧ i = .int .i64 k ∧ Below w.heap.size w wr) (fun i _ => n - (intOf i).toNat)
  case atStart => exact ⟨0, by omega, rfl, Below.refl _ _⟩
  case round =>
    obtain ⟨k, hk, rfl, hb⟩ := hrel
    by_cases hlt : k < n
    · obtain ⟨g, o, rfl, hsrc⟩ := hp.below hb (by omega)
      obtain ⟨hx, hy⟩ := hsrc k hlt
      obtain ⟨g', o', rfl, hsrc'⟩ := hp'.below hb (by omega)
      obtain ⟨hx', hy'⟩ := hsrc' k hlt
      clear hsrc hsrc'
      go_wp2
      go_still_tail 8, (by kernel_rfl)
      change wpList _ _ _ _ _ wr.drew
      go_wp2_with (go_at_call 51; refine (eqPause _ _ _).mono ?_; rintro e w1 ⟨rfl, hb1⟩)
      go_roundw
      case rel => exact ⟨k + 1, by omega, by go_num, hb.drew.trans (hb1.mono hb.size)⟩
      case measure => simp [intOf]; omega
    · go_wp2
      go_ret
      exact ⟨rfl, hb⟩
theorem szPauseS_no (A : Option Addr) (n cap : Nat) (w : World) (l : Int) (h1 : 0 ≤ l) (h2 : l ≤ 1048576) (hn : n ≤ 9223372036854775807) (h : l < n) :
    Calls Try.prog 37 #[.slice A n cap, .int .i64 l] w fun e w' => e = .returned (.int .i64 (-1)) ∧ w = w' := by
  go_enter Try.func37, Try.ntmps37
  go_wp2
  go_ret
  exact ⟨rfl, rfl⟩
theorem szPauseS_yes (A : Option Addr) (n cap : Nat) (w : World) (l : Int) (h1 : 0 ≤ l) (h2 : l ≤ 1048576) (h : (n : Int) ≤ l) :
    Calls Try.prog 37 #[.slice A n cap, .int .i64 l] w fun e w' => e = .returned (.int .i64 (l - n)) ∧ w = w' := by
  go_enter Try.func37, Try.ntmps37
  go_wp2
  go_ret
  exact ⟨rfl, rfl⟩
end Go.Proofs.Ytaacgajpjkfplaa.C1
