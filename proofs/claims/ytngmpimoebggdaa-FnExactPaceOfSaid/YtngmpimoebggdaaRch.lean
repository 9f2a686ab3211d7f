/- Reaches in memory: their rows, the copies that the program and its model make of them, their sums and whether they are valid. -/
import Derived.Test.YtngmpimoebggdaaReachM
import Derived.Test.YtngmpimoebggdaaEqPts
import Derived.Test.YtngmpimoebggdaaInts
import Derived.Test.YtngmpimoebggdaaCur
import Derived.Test.YtngmpimoebggdaaPlace2
import Derived.Test.YtngmpimoebggdaaApp
import Derived.Laws.OwnMore
namespace Go.Proofs.Ytngmpimoebggdaa.C1
open Go.ChangeShapes Go.WideShapes Go.ChangeAt Go.RowKit
set_option linter.unusedVariables false

/-- A slice of points at the head of block g (any block, if it is empty). -/
def RowP (w : World) (A : Option Addr) (n g : Nat) (X Y : Nat → Int) : Prop :=
  (0 < n → A = some ⟨g, 0, none⟩) ∧ ∀ i, i < n → w.cell? ⟨g, i * 2, none⟩ = some (.int .i64 (X i)) ∧ w.cell? ⟨g, i * 2 + 1, none⟩ = some (.int .i64 (Y i))
theorem RowP.lt {w : World} {A : Option Addr} {n g : Nat} {X Y : Nat → Int} (h : RowP w A n g X Y) (hn : 0 < n) : g < w.heap.size := World.block_lt_of_cell? _ _ (h.2 0 hn).1
theorem RowP.below {w w' : World} {A : Option Addr} {n g : Nat} {X Y : Nat → Int} (h : RowP w A n g X Y) (hb : Below w.heap.size w w') : RowP w' A n g X Y :=
  ⟨h.1, fun i hi => ⟨(hb.cell (h.lt (by omega))).trans (h.2 i hi).1, (hb.cell (h.lt (by omega))).trans (h.2 i hi).2⟩⟩
theorem RowP.other {w w' : World} {A : Option Addr} {n g k : Nat} {X Y : Nat → Int} (h : RowP w A n g X Y) (hb : w.grownBy w' (some k)) (hne : 0 < n → g ≠ k) : RowP w' A n g X Y :=
  ⟨h.1, fun i hi => ⟨hb.cell (h.2 i hi).1 (by intro e; injection e with e; exact hne (by omega) e), hb.cell (h.2 i hi).2 (by intro e; injection e with e; exact hne (by omega) e)⟩⟩
theorem RowP.pts {w : World} {A : Option Addr} {n g : Nat} {X Y : Nat → Int} (h : RowP w A n g X Y) : Pts w A n X Y := fun hn =>
  ⟨g, 0, h.1 hn, fun i hi => by rw [Nat.zero_add]; exact h.2 i hi⟩
theorem RowI.ints {w : World} {A : Option Addr} {n g : Nat} {Z : Nat → Int} (h : RowI w A n g Z) : Ints w A n Z := fun hn =>
  ⟨g, 0, h.1 hn, fun i hi => by rw [Nat.zero_add]; exact h.2 i hi⟩
theorem RowP.of_row {w : World} {g n : Nat} {t : TypeId} {X Y : Nat → Int} (h : w.rowIs g t (n * 2) (ptc X Y)) : RowP w (some ⟨g, 0, none⟩) n g X Y ∧ Free w (n * 2) g :=
  ⟨⟨fun _ => rfl, fun i hi => ⟨by rw [h.cell (i := i * 2) (by omega), ptc_x], by rw [h.cell (i := i * 2 + 1) (by omega), ptc_y]⟩⟩, fun i hi => h.frozen i⟩
theorem Ints.below {w w' : World} {A : Option Addr} {n : Nat} {Z : Nat → Int} (h : Ints w A n Z) (hb : Below w.heap.size w w') : Ints w' A n Z := fun hn => by
  obtain ⟨g, o, e, hc⟩ := h hn
  exact ⟨g, o, e, fun i hi => (hb.cell (World.block_lt_of_cell? _ _ (hc i hi))).trans (hc i hi)⟩
theorem Pts.alloc {w : World} {A : Option Addr} {n : Nat} {X Y : Nat → Int} (h : Pts w A n X Y) (o : Obj) : Pts (w.alloc o) A n X Y := h.below ((Below.refl _ _).alloc (Nat.le_refl _) _)
theorem Ints.alloc {w : World} {A : Option Addr} {n : Nat} {Z : Nat → Int} (h : Ints w A n Z) (o : Obj) : Ints (w.alloc o) A n Z := h.below ((Below.refl _ _).alloc (Nat.le_refl _) _)

/-- The cells of n points, of n integers. -/
def ptl (n : Nat) (X Y : Nat → Int) : List Value := (List.range (n * 2)).map (ptc X Y)
theorem ptl_len (n : Nat) (X Y : Nat → Int) : (ptl n X Y).length = n * 2 := by simp [ptl]
theorem ptl_at {n : Nat} {X Y : Nat → Int} {i : Nat} (hi : i < n * 2) : (ptl n X Y)[i]? = some (ptc X Y i) := by simp [ptl, hi]
theorem ptl_one {n : Nat} {X Y : Nat → Int} : ∀ u ∈ ptl n X Y, u.oneCell' = true := fun u hu => by
  obtain ⟨i, _, rfl⟩ := List.mem_map.1 hu
  unfold ptc; split <;> rfl
/-- What the call owns as a row of points, of integers. -/
theorem rowP_of_own {w : World} {B : Nat} {v : Value} {n : Nat} {X Y : Nat → Int} (h : w.ownsRow B 188 2 v n (ptl n X Y)) (hB : B ≤ w.heap.size) :
    ∃ A c g, v = .slice A n c ∧ RowP w A n g X Y ∧ Free w (n * 2) g ∧ B ≤ g ∧ (0 < n → g < w.heap.size) := by
  rcases h.2 with ⟨rfl, rfl⟩ | ⟨g, cap, cur, rfl, hg, hh, _⟩
  · exact ⟨none, 0, B, rfl, ⟨fun h => absurd h (by omega), fun i hi => absurd hi (by omega)⟩, fun i hi => absurd hi (by omega), Nat.le_refl _, fun h => absurd h (by omega)⟩
  · exact ⟨_, cap, g, rfl, ⟨fun _ => rfl, fun i hi => ⟨by rw [h.cellAt _ (by omega), ptl_at (by omega), ptc_x], by rw [h.cellAt _ (by omega), ptl_at (by omega), ptc_y]⟩⟩, fun i hi => h.frozenAt i, hg, fun _ => (Array.getElem?_eq_some_iff.1 hh).1⟩

/-- The cells of a slice of points, of integers, as a source of an append. -/
theorem src_p {w : World} {A : Option Addr} {n : Nat} {X Y : Nat → Int} (h : Pts w A n X Y) : 0 < n → ∃ ad, A = some ad ∧ ∀ j u, (ptl n X Y)[j]? = some u → w.cell? (ad.add j) = some u := fun hn => by
  obtain ⟨g, o, e, hc⟩ := h hn
  refine ⟨_, e, fun j u hu => ?_⟩
  have hj : j < n * 2 := by have := (List.getElem?_eq_some_iff.1 hu).1; rwa [ptl_len] at this
  rw [ptl_at hj] at hu
  injection hu with hu
  have e' : (⟨g, o, none⟩ : Addr).add j = ⟨g, o + j, none⟩ := by unfold Addr.add; split <;> simp_all
  rw [e', ← hu]
  unfold ptc
  split
  · have := (hc (j / 2) (by omega)).1; rwa [show o + j / 2 * 2 = o + j by omega] at this
  · have := (hc (j / 2) (by omega)).2; rwa [show o + j / 2 * 2 + 1 = o + j by omega] at this
theorem src_i {w : World} {A : Option Addr} {n : Nat} {Z : Nat → Int} (h : Ints w A n Z) : 0 < n → ∃ ad, A = some ad ∧ ∀ j u, (itl n Z)[j]? = some u → w.cell? (ad.add j) = some u := fun hn => by
  obtain ⟨g, o, e, hc⟩ := h hn
  refine ⟨_, e, fun j u hu => ?_⟩
  have hj : j < n := by have := (List.getElem?_eq_some_iff.1 hu).1; rwa [itl_len] at this
  rw [itl_at hj] at hu
  injection hu with hu
  have e' : (⟨g, o, none⟩ : Addr).add j = ⟨g, o + j, none⟩ := by unfold Addr.add; split <;> simp_all
  rw [e', ← hu]
  exact hc j hj

theorem infoP : (Try.prog.info? 188).map (fun i => (i.zero, i.size, i.bytes)) = some (some (.agg #[.int .i64 0, .int .i64 0]), 2, 16) := by kernel_rfl

theorem sumZ_in {r : Rc} (h0 : 0 ≤ r.v) (h1 : r.v ≤ 1000000000) (hm : r.m ≤ 12) (hz : ∀ i, i < r.m → 0 ≤ r.Z i ∧ r.Z i ≤ 1000000000) {k : Nat} (hk : k ≤ r.m) : 0 ≤ sumZ r.Z k ∧ sumZ r.Z k ≤ 12000000000 := by
  have := sumZ_bd hz k hk
  omega
theorem sum_spec (r : Rc) (A D : Option Addr) (c d : Nat) (w : World) (h0 : 0 ≤ r.v) (h1 : r.v ≤ 1000000000) (hm : r.m ≤ 12) (hz : ∀ i, i < r.m → 0 ≤ r.Z i ∧ r.Z i ≤ 1000000000) (hd : Ints w D r.m r.Z) :
    Calls Try.prog 153 #[.agg #[.slice A r.n c, .int .i64 r.v, .slice D r.m d]] w fun e w' => e = .returned (.int .i64 (totZ r)) ∧ Below w.heap.size w w' := by
  have HD := Lib.hid hd
  have HZ := Lib.hid hz
  clear hd hz
  go_enter Try.func153, Try.ntmps153
  go_wp2
  go_loop [3, 4] (fun n i => ∃ k : Nat, k ≤ r.m ∧ i = .int .i64 k ∧ n = .int .i64 (r.v + sumZ r.Z k)) (fun _ i => r.m - (intOf i).toNat)
  case atStart => exact ⟨0, by omega, rfl, by rw [sumZ, Int.add_zero]⟩
  case round =>
    obtain ⟨k, hk, rfl, rfl⟩ := hrel
    by_cases hlt : k < r.m
    · obtain ⟨g, o, rfl, hc⟩ := HD.out (by omega)
      have hck := hc k hlt
      have hg : g < w.heap.size := World.block_lt_of_cell? _ _ hck
      obtain ⟨b0, b1⟩ := sumZ_in h0 h1 hm HZ.out (k := k) (by omega)
      obtain ⟨z0, z1⟩ := HZ.out k hlt
      clear hc
      go_wp2
      go_round
      case rel => exact ⟨k + 1, by omega, by go_num, by rw [sumZ]; congr 1; omega⟩
      case measure => simp [intOf]; omega
    · obtain rfl : k = r.m := by omega
      go_wp2
      go_ret
      exact ⟨ret_int rfl, (Below.refl _ _).alloc (Nat.le_refl _) _⟩
end Go.Proofs.Ytngmpimoebggdaa.C1
