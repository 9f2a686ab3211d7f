/- Slices of points: how they lie in memory, and the conversion of a law's argument. -/
import Derived.Test.YtngmpimoebggdaaRow
import Derived.Laws.MakeOwn
import Derived.Deep.OwnRows
namespace Go.Proofs.Ytngmpimoebggdaa.C1
open Go.ChangeShapes Go.WideShapes Go.ChangeAt Go.RowKit
set_option linter.unusedVariables false

/-- The cells of points. -/
def ptc (X Y : Nat → Int) (j : Nat) : Value := if j % 2 = 0 then .int .i64 (X (j / 2)) else .int .i64 (Y (j / 2))
theorem ptc_x (X Y : Nat → Int) (i : Nat) : ptc X Y (i * 2) = .int .i64 (X i) := by
  unfold ptc; rw [if_pos (by omega), show i * 2 / 2 = i by omega]
theorem ptc_y (X Y : Nat → Int) (i : Nat) : ptc X Y (i * 2 + 1) = .int .i64 (Y i) := by
  unfold ptc; rw [if_neg (by omega), show (i * 2 + 1) / 2 = i by omega]
/-- A slice of points, wherever it lies: cell 2i is X i, cell 2i + 1 is Y i. -/
def SrcPts (w : World) (A : Option Addr) (n : Nat) (X Y : Nat → Int) : Prop :=
  0 < n → ∃ ad, A = some ad ∧ ∀ i, i < n → w.cell? (ad.add (i * 2)) = some (.int .i64 (X i)) ∧ w.cell? ⟨(ad.add (i * 2)).block, (ad.add (i * 2)).off + 1, none⟩ = some (.int .i64 (Y i))
theorem src_pts {w : World} {A : Option Addr} {n : Nat} {f : Nat → Nat → Int} (h : 0 < n → ∃ ad, A = some ad ∧ ∀ i, i < n → ∀ j, j < 2 → w.cell? ((ad.add (i * 2)).add j) = some (.int .i64 (f i j)) ∧ (Lit.int .i64 (f i j)).wf = true) :
    SrcPts w A n (fun i => f i 0) (fun i => f i 1) := fun hn => by
  obtain ⟨ad, e, hc⟩ := h hn
  exact ⟨ad, e, fun i hi => ⟨(hc i hi 0 (by decide)).1, (hc i hi 1 (by decide)).1⟩⟩
theorem cell_lt {w : World} {a : Addr} {v : Value} (h : w.cell? a = some v) : a.block < w.heap.size := by
  unfold World.cell? at h
  rcases Nat.lt_or_ge a.block w.heap.size with hl | hl
  · exact hl
  · rw [Array.getElem?_eq_none hl] at h; cases h
theorem SrcPts.below {w w' : World} {A : Option Addr} {n : Nat} {X Y : Nat → Int} (h : SrcPts w A n X Y) (hb : Below w.heap.size w w') : SrcPts w' A n X Y := fun hn => by
  obtain ⟨ad, e, hc⟩ := h hn
  exact ⟨ad, e, fun i hi => ⟨(hb.cell (cell_lt (hc i hi).1)).trans (hc i hi).1, (hb.cell (cell_lt (hc i hi).2)).trans (hc i hi).2⟩⟩

theorem toPoint (x y : Int) (w : World) :
    Calls Try.prog 155 #[.agg #[.int .i64 x, .int .i64 y]] w fun e w' => e = .returned (.agg #[.int .i64 x, .int .i64 y]) ∧ Below w.heap.size w w' := by
  go_enter Try.func155, Try.ntmps155
  go_wp2
  exact bodyPost_ret (v := .agg #[.int .i64 x, .int .i64 y]) (by simp [results, Try.results155, go_sem]) rfl ⟨rfl, (((Below.refl _ _).alloc (Nat.le_refl _) _).alloc (by simp) _).alloc (by simp; omega) _⟩
theorem infoPt : (Try.prog.info? 188).map (fun i => (i.zero, i.size, i.bytes)) = some (some (.agg #[.int .i64 0, .int .i64 0]), 2, 16) := by kernel_rfl
set_option maxHeartbeats 400000 in
theorem toPointS (A : Option Addr) (n cap : Nat) (w : World) (hn : n ≤ 1048576) (X Y : Nat → Int) (hp : SrcPts w A n X Y) :
    Calls Try.prog 81 #[.slice A n cap] w fun e w' => e = .returned (.slice (some ⟨w.heap.size, 0, none⟩) n n) ∧ Below w.heap.size w w' ∧ w'.rowIs w.heap.size 188 (n * 2) (ptc X Y) := by
  obtain ⟨i0, hi, hz0, hz1, hz2⟩ := info_parts infoPt
  have hmk := make_eq (P := Try.prog) 52 188 i0 _ 2 16 Try.underlying52 hi hz0 hz1 hz2 n (by omega) (by omega)
  go_enter Try.func81, Try.ntmps81
  go_wp2
  clear hmk hi hz0 hz1 hz2
  go_loopw [4] (fun i wr => ∃ k : Nat, k ≤ n ∧ i = .int .i64 k ∧ Below w.heap.size w wr ∧ wr.rowIs w.heap.size 188 (n * 2) (fun j => if j < k * 2 then ptc X Y j else .int .i64 0)) (fun i _ => n - (intOf i).toNat)
  case atStart =>
    refine ⟨0, by omega, rfl, (Below.refl _ _).alloc (Nat.le_refl _) _, ?_⟩
    have h := World.rowIs_alloc w (madeCells #[.int .i64 0, .int .i64 0] (n * 2)) 188 (fun j => if j < 0 * 2 then ptc X Y j else .int .i64 0) (fun i hi => by
      rw [size_madeCells] at hi
      have : i % 2 = 0 ∨ i % 2 = 1 := by omega
      rcases this with h | h <;> simp [madeCells, hi, h])
    rw [size_madeCells] at h
    exact h
  case round =>
    obtain ⟨k, hk, rfl, hb, hrow⟩ := hrel
    by_cases hlt : k < n
    · obtain ⟨ad, rfl, hsrc⟩ := hp.below hb (by omega)
      obtain ⟨hx, hy⟩ := hsrc k hlt
      clear hsrc
      have hz := hrow.lt
      go_wp2_with (go_at_call 155; refine (toPoint _ _ _).mono ?_; rintro e w1 ⟨rfl, hb1⟩; have hrow1 := hrow.of_block (hb1.block _ hz); obtain ⟨u0, c0⟩ : ∃ u, w1.cell? ⟨w.heap.size, k * 2, none⟩ = some u := ⟨_, hrow1.cell (by omega)⟩; obtain ⟨u1, c1⟩ : ∃ u, w1.cell? ⟨w.heap.size, k * 2 + 1, none⟩ = some u := ⟨_, hrow1.cell (by omega)⟩; have z0 := hrow1.frozen (k * 2); have z1 := hrow1.frozen (k * 2 + 1))
      go_roundw
      case rel =>
        refine ⟨k + 1, by omega, by go_num, ((hb.trans (hb1.mono (by omega))).setCell (Nat.le_refl _) _).setCell (Nat.le_refl _) _, ((hrow1.set _ _).set _ _).congr fun j hj => ?_⟩
        by_cases e1 : j = k * 2 + 1
        · subst e1; rw [if_pos rfl, if_pos (by omega), ptc_y]
        · rw [if_neg e1]
          by_cases e0 : j = k * 2
          · subst e0; rw [if_pos rfl, if_pos (by omega), ptc_x]
          · rw [if_neg e0]
            by_cases e2 : j < k * 2
            · rw [if_pos e2, if_pos (by omega)]
            · rw [if_neg e2, if_neg (by omega)]
      case measure => simp [intOf]; omega
    · go_wp2
      go_ret
      exact ⟨rfl, hb, hrow.congr fun j hj => if_pos (by omega)⟩
end Go.Proofs.Ytngmpimoebggdaa.C1
