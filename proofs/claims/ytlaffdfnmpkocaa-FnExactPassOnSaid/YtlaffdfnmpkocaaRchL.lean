/- The laws' own functions on reaches: the conversion of an argument, the comparison, the marking and the look back. -/
import Derived.Test.YtlaffdfnmpkocaaRchS
namespace Go.Proofs.Ytlaffdfnmpkocaa.C1
open Go.ChangeShapes Go.WideShapes Go.ChangeAt Go.RowKit
set_option linter.unusedVariables false

theorem Touch.row {w w' : World} {B L n g : Nat} {A : Option Addr} {X Y : Nat → Int} (t : Touch w w' B L) (h : RowP w A n g X Y) (hg : 0 < n → g < B ∨ L ≤ g) : RowP w' A n g X Y :=
  ⟨h.1, fun i hi => ⟨(World.cell?_of_block (t.block g (h.lt (by omega)) (hg (by omega)))).trans (h.2 i hi).1, (World.cell?_of_block (t.block g (h.lt (by omega)) (hg (by omega)))).trans (h.2 i hi).2⟩⟩

/-- A reach whose slices lie in blocks of their own, from B on and below L. -/
def Owned (w : World) (B L : Nat) (A D : Option Addr) (r : Rc) (g1 g2 : Nat) : Prop :=
  RowP w A r.n g1 r.X r.Y ∧ Free w (r.n * 2) g1 ∧ RowI w D r.m g2 r.Z ∧ Free w r.m g2 ∧ (0 < r.n → B ≤ g1 ∧ g1 < L) ∧ (0 < r.m → B ≤ g2 ∧ g2 < L) ∧ (0 < r.n → 0 < r.m → g1 ≠ g2)
theorem Owned.below {w w' : World} {B L g1 g2 : Nat} {A D : Option Addr} {r : Rc} (h : Owned w B L A D r g1 g2) (hb : Below w.heap.size w w') : Owned w' B L A D r g1 g2 :=
  ⟨h.1.below hb, h.2.1.below (fun hn => h.1.lt (by omega)) hb, h.2.2.1.below hb, h.2.2.2.1.below (fun hn => h.2.2.1.lt hn) hb, h.2.2.2.2⟩
theorem Owned.touch {w w' : World} {B L B' L' g1 g2 : Nat} {A D : Option Addr} {r : Rc} (h : Owned w B L A D r g1 g2) (t : Touch w w' B' L') (hd : L ≤ B' ∨ L' ≤ B) : Owned w' B L A D r g1 g2 := by
  obtain ⟨h1, h2, h3, h4, h5, h6, h7⟩ := h
  have o1 : 0 < r.n → g1 < B' ∨ L' ≤ g1 := fun hn => by have := h5 hn; omega
  have o2 : 0 < r.m → g2 < B' ∨ L' ≤ g2 := fun hn => by have := h6 hn; omega
  exact ⟨t.row h1 o1, t.free h2 (fun hn => h1.lt (by omega)) (fun hn => o1 (by omega)), t.rowI h3 o2, t.free h4 (fun hn => h3.lt hn) o2, h5, h6, h7⟩
theorem Owned.wide {w : World} {B L B' L' g1 g2 : Nat} {A D : Option Addr} {r : Rc} (h : Owned w B L A D r g1 g2) (hB : B' ≤ B) (hL : L ≤ L') : Owned w B' L' A D r g1 g2 :=
  ⟨h.1, h.2.1, h.2.2.1, h.2.2.2.1, fun hn => by have := h.2.2.2.2.1 hn; omega, fun hn => by have := h.2.2.2.2.2.1 hn; omega, h.2.2.2.2.2.2⟩
theorem Owned.pts {w : World} {B L g1 g2 : Nat} {A D : Option Addr} {r : Rc} (h : Owned w B L A D r g1 g2) : Pts w A r.n r.X r.Y := h.1.pts
theorem Owned.ints {w : World} {B L g1 g2 : Nat} {A D : Option Addr} {r : Rc} (h : Owned w B L A D r g1 g2) : Ints w D r.m r.Z := h.2.2.1.ints
/-- What a function that gives a reach leaves: the reach in memory of its own, all else as it was. -/
def GivesR (w : World) (r : Rc) (e : Ending) (w' : World) : Prop :=
  (∃ A c D d g1 g2, e = .returned (.agg #[.slice A r.n c, .int .i64 r.v, .slice D r.m d]) ∧ r.m ≤ d ∧ Owned w' w.heap.size w'.heap.size A D r g1 g2) ∧ Below w.heap.size w w'

set_option maxHeartbeats 1000000 in
theorem toReach (r : Rc) (A D : Option Addr) (c d : Nat) (w : World) (hn : r.n ≤ 1048576) (hm : r.m ≤ 1048576) (hp : SrcPts w A r.n r.X r.Y) (hd : SrcI w D r.m r.Z) :
    Calls Try.prog 6 #[.agg #[.slice A r.n c, .int .i64 r.v, .slice D r.m d]] w (GivesR w r) := by
  have HP := Lib.hid hp
  have HD := Lib.hid hd
  clear hp hd
  go_enter Try.func6, Try.ntmps6
  go_wp2_with fail
  have HB0 := Lib.hid ((((Below.refl w.heap.size w).alloc (Nat.le_refl _) (.cells #[.slice A r.n c, .int .i64 r.v, .slice D r.m d] 25)).alloc (by simp) (.cells #[.slice none 0 0, .int .i64 0, .slice none 0 0] 29)).alloc (by simp; omega) (.cells #[.slice none 0 0, .int .i64 0, .slice none 0 0] 29))
  refine (toPointS _ _ _ _ hn _ _ (HP.out.below HB0.out)).mono ?_
  rintro e w1 ⟨rfl, hb1, hr1⟩
  have hz1 : w.heap.size + 1 + 1 < w1.heap.size := by have := hb1.size; simp at this; omega
  have hz0 : w.heap.size + 1 + 1 + 1 < w1.heap.size := by have := hr1.lt; simpa using this
  have hz1a : w.heap.size + 1 < w1.heap.size := by omega
  have hz1b : w.heap.size < w1.heap.size := by omega
  have HB1 := Lib.hid (HB0.out.trans (hb1.mono (by simp; omega)))
  obtain ⟨k1, f1⟩ := bcell hb1
  have hr1' := RowP.of_row hr1
  simp at hr1'
  have HR1 := Lib.hid hr1'
  clear hb1 hr1 hr1'
  go_wp2_with fail
  have HS := Lib.hid (show Below w.heap.size w ((w1.setCell ⟨w.heap.size + 1 + 1, 0, none⟩ (.slice (some ⟨w.heap.size + 1 + 1 + 1, 0, none⟩) r.n r.n)).setCell ⟨w.heap.size + 1 + 1, 1, none⟩ (.int .i64 r.v)) from
    (HB1.out.setCell (by show w.heap.size ≤ w.heap.size + 1 + 1; omega) _).setCell (by show w.heap.size ≤ w.heap.size + 1 + 1; omega) _)
  refine (toIntS _ _ _ _ hm _ (HD.out.below HS.out)).mono ?_
  rintro e w2 ⟨rfl, hb2, hr2⟩
  have hz2 : w1.heap.size < w2.heap.size := by have := hr2.lt; simpa using this
  have HB2 := Lib.hid (HS.out.trans (hb2.mono (by simp; omega)))
  obtain ⟨k2, f2⟩ := bcell hb2
  have hr2' := RowI.of_row hr2
  simp at hr2'
  have HR2 := Lib.hid hr2'
  clear hr2 hr2'
  have HT := Lib.hid (show Touch w1 w2 (w.heap.size + 1 + 1) (w.heap.size + 1 + 1 + 1) from
    (((Touch.refl w1 _ _).set (w.heap.size + 1 + 1) 0 _ (Nat.le_refl _) (Nat.lt_succ_self _)).set (w.heap.size + 1 + 1) 1 _ (Nat.le_refl _) (Nat.lt_succ_self _)).trans (Touch.of_below hb2))
  clear hb2
  go_wp2
  refine bodyPost_ret (v := .agg #[.slice (some ⟨w.heap.size + 1 + 1 + 1, 0, none⟩) r.n r.n, .int .i64 r.v, .slice (some ⟨w1.heap.size, 0, none⟩) r.m r.m]) (by simp [results, Try.results6, go_sem, k1, k2, hz1a]) rfl ?_
  clear k1 k2 f1 f2
  have HU := Lib.hid (((((Touch.refl w2 (w.heap.size + 1) (w.heap.size + 1 + 1 + 1)).set (w.heap.size + 1 + 1) 2 (.slice (some ⟨w1.heap.size, 0, none⟩) r.m r.m) (by omega) (by omega)).set (w.heap.size + 1) 0 (.slice (some ⟨w.heap.size + 1 + 1 + 1, 0, none⟩) r.n r.n) (by omega) (by omega)).set (w.heap.size + 1) 1 (.int .i64 r.v) (by omega) (by omega)).set (w.heap.size + 1) 2 (.slice (some ⟨w1.heap.size, 0, none⟩) r.m r.m) (by omega) (by omega))
  have hs := HU.out.size
  refine ⟨⟨_, _, _, _, w.heap.size + 1 + 1 + 1, w1.heap.size, rfl, Nat.le_refl _, ?_⟩, HU.out.below HB2.out (by omega)⟩
  exact ⟨HU.out.row (HT.out.row HR1.out.1 (fun _ => by omega)) (fun _ => by omega), HU.out.free (HT.out.free HR1.out.2 (fun _ => by have := HR1.out.1.lt (by omega); omega) (fun _ => by omega)) (fun _ => by omega) (fun _ => by omega),
    HU.out.rowI HR2.out.1 (fun _ => by omega), HU.out.free HR2.out.2 (fun _ => by omega) (fun _ => by omega), fun _ => ⟨by omega, by omega⟩, fun _ => ⟨by omega, by omega⟩, fun _ _ => by omega⟩
theorem eqReach (r : Rc) (A D A' D' : Option Addr) (c d c' d' : Nat) (w : World) (hn : r.n ≤ 1048576) (hm : r.m ≤ 1048576) {B L g1 g2 B' L' g1' g2' : Nat} (h : Owned w B L A D r g1 g2) (h' : Owned w B' L' A' D' r g1' g2') :
    Calls Try.prog 8 #[.agg #[.slice A r.n c, .int .i64 r.v, .slice D r.m d], .agg #[.slice A' r.n c', .int .i64 r.v, .slice D' r.m d']] w fun e w' => e = .returned (.bool true) ∧ Below w.heap.size w w' := by
  have H := Lib.hid h
  have H' := Lib.hid h'
  clear h h'
  have HB0 := Lib.hid (((Below.refl w.heap.size w).alloc (Nat.le_refl _) (.cells #[.slice A r.n c, .int .i64 r.v, .slice D r.m d] 29)).alloc (by simp) (.cells #[.slice A' r.n c', .int .i64 r.v, .slice D' r.m d'] 29))
  go_enter Try.func8, Try.ntmps8
  go_wp2_with fail
  refine (eqPointS _ _ _ _ _ _ hn _ _ (H.out.below HB0.out).pts (H'.out.below HB0.out).pts).mono ?_
  rintro e w1 ⟨rfl, hb1⟩
  have HB1 := Lib.hid (HB0.out.trans (hb1.mono (by simp; omega)))
  obtain ⟨k1, f1⟩ := bcell hb1
  clear hb1 f1
  go_wp2_with fail
  refine (eqIntS _ _ _ _ _ _ _ _ hm _ (H.out.below HB1.out).2.2.1 (H'.out.below HB1.out).2.2.1).mono ?_
  rintro e w2 ⟨rfl, hb2⟩
  have HB2 := Lib.hid (HB1.out.trans (hb2.mono HB1.out.size))
  clear hb2 k1
  go_wp2
  go_ret
  exact ⟨rfl, HB2.out⟩
theorem szIntS_no (A : Option Addr) (n cap : Nat) (w : World) (l : Int) (h1 : 0 ≤ l) (h2 : l ≤ 1048576) (hn : n ≤ 9223372036854775807) (h : l < n) :
    Calls Try.prog 12 #[.slice A n cap, .int .i64 l] w fun e w' => e = .returned (.int .i64 (-1)) ∧ w = w' := by
  go_enter Try.func12, Try.ntmps12
  go_wp2
  go_ret
  exact ⟨rfl, rfl⟩
theorem szIntS_yes (A : Option Addr) (n cap : Nat) (w : World) (l : Int) (h1 : 0 ≤ l) (h2 : l ≤ 1048576) (h : (n : Int) ≤ l) :
    Calls Try.prog 12 #[.slice A n cap, .int .i64 l] w fun e w' => e = .returned (.int .i64 (l - n)) ∧ w = w' := by
  go_enter Try.func12, Try.ntmps12
  go_wp2
  go_ret
  exact ⟨rfl, rfl⟩
theorem szReach_no (A D : Option Addr) (n c m d : Nat) (v : Int) (w : World) (l : Int) (h1 : 0 ≤ l) (h2 : l ≤ 1048576) (hn : n ≤ 9223372036854775807) (hm : m ≤ 9223372036854775807) (h : l < n + m) :
    Calls Try.prog 4 #[.agg #[.slice A n c, .int .i64 v, .slice D m d], .int .i64 l] w fun e w' => e = .returned (.int .i64 (-1)) ∧ Below w.heap.size w w' := by
  by_cases hc : l < n
  · go_enter Try.func4, Try.ntmps4
    go_wp2_with fail
    refine (szPointS_no _ _ _ _ _ h1 h2 hn hc).mono ?_
    rintro e w' ⟨rfl, rfl⟩
    go_wp2
    go_ret
    exact ⟨rfl, (Below.refl _ _).alloc (Nat.le_refl _) _⟩
  · have hc' : (n : Int) ≤ l := by omega
    clear hc
    go_enter Try.func4, Try.ntmps4
    go_wp2_with fail
    refine (szPointS_yes _ _ _ _ _ h1 h2 hc').mono ?_
    rintro e w' ⟨rfl, rfl⟩
    go_wp2_with fail
    refine (szIntS_no _ _ _ _ _ (by omega) (by omega) hm (by omega)).mono ?_
    rintro e w' ⟨rfl, rfl⟩
    go_wp2
    go_ret
    exact ⟨rfl, (Below.refl _ _).alloc (Nat.le_refl _) _⟩
theorem szReach_yes (A D : Option Addr) (n c m d : Nat) (v : Int) (w : World) (l : Int) (h1 : 0 ≤ l) (h2 : l ≤ 1048576) (h : (n : Int) + m ≤ l) :
    Calls Try.prog 4 #[.agg #[.slice A n c, .int .i64 v, .slice D m d], .int .i64 l] w fun e w' => e = .returned (.int .i64 (l - n - m)) ∧ Below w.heap.size w w' := by
  go_enter Try.func4, Try.ntmps4
  go_wp2_with fail
  refine (szPointS_yes _ _ _ _ _ h1 h2 (by omega)).mono ?_
  rintro e w' ⟨rfl, rfl⟩
  go_wp2_with fail
  refine (szIntS_yes _ _ _ _ _ (by omega) (by omega) (by omega)).mono ?_
  rintro e w' ⟨rfl, rfl⟩
  go_wp2
  go_ret
  exact ⟨rfl, (Below.refl _ _).alloc (Nat.le_refl _) _⟩
theorem RowP.congr {w : World} {A : Option Addr} {n g : Nat} {X Y X' Y' : Nat → Int} (h : RowP w A n g X Y) (e : ∀ i, i < n → X i = X' i ∧ Y i = Y' i) : RowP w A n g X' Y' :=
  ⟨h.1, fun i hi => by rw [← (e i hi).1, ← (e i hi).2]; exact h.2 i hi⟩
theorem RowP.set2 {w : World} {A : Option Addr} {n g k : Nat} {X Y : Nat → Int} (h : RowP w A n g X Y) (hk : k < n) (x y : Int) :
    RowP ((w.setCell ⟨g, k * 2, none⟩ (.int .i64 x)).setCell ⟨g, k * 2 + 1, none⟩ (.int .i64 y)) A n g (fun i => if i = k then x else X i) (fun i => if i = k then y else Y i) := by
  refine ⟨h.1, fun i hi => ?_⟩
  obtain ⟨c0, c1⟩ := h.2 i hi
  show _ = some (Value.int .i64 (if i = k then x else X i)) ∧ _ = some (Value.int .i64 (if i = k then y else Y i))
  by_cases e : i = k
  · subst e
    rw [if_pos rfl, if_pos rfl]
    refine ⟨(World.cell?_setCell_other _ _ _ _ (by intro h; injection h with _ h; omega)).trans (World.cell?_setCell_same _ _ _ c0), World.cell?_setCell_same _ _ _ ((World.cell?_setCell_other _ _ _ _ (by intro h; injection h with _ h; omega)).trans c1)⟩
  · rw [if_neg e, if_neg e]
    exact ⟨(World.cell?_setCell_other _ _ _ _ (by intro h; injection h with _ h; omega)).trans ((World.cell?_setCell_other _ _ _ _ (by intro h; injection h with _ h; omega)).trans c0), (World.cell?_setCell_other _ _ _ _ (by intro h; injection h with _ h; omega)).trans ((World.cell?_setCell_other _ _ _ _ (by intro h; injection h with _ h; omega)).trans c1)⟩
theorem Free.set {w : World} {n g : Nat} (h : Free w n g) (a : Addr) (u : Value) : Free (w.setCell a u) n g := fun i hi => by rw [World.frozen?_setCell]; exact h i hi
def mkX (K i : Nat) : Int := ((K + 2 * i : Nat) : Int)
def mkY (K i : Nat) : Int := ((K + 2 * i + 1 : Nat) : Int)
/-- A reach whose elements were marked with the numbers from K on. -/
def markR (r : Rc) (K : Nat) : Rc := { r with X := mkX K, Y := mkY K, Z := fun i => ((K + 2 * r.n + i : Nat) : Int) }
set_option maxHeartbeats 1000000 in
theorem markPointS (A : Option Addr) (n c g K : Nat) (X Y : Nat → Int) (w : World) (hn : n ≤ 1048576) (hK : K ≤ 100000000) (ha : RowP w A n g X Y) (hf : Free w (n * 2) g) :
    Calls Try.prog 25 #[.slice A n c, .int .i64 (K : Int)] w fun e w' => e = .returned (.int .i64 ((K + 2 * n : Nat) : Int)) ∧ RowP w' A n g (mkX K) (mkY K) ∧ Free w' (n * 2) g ∧ w.grownBy w' (some g) := by
  have HA := Lib.hid ha
  have HF := Lib.hid hf
  clear ha hf
  go_enter Try.func25, Try.ntmps25
  go_wp2
  go_loopw [1, 5] (fun m i wr => ∃ k : Nat, k ≤ n ∧ i = .int .i64 k ∧ m = .int .i64 ((K + 2 * k : Nat) : Int) ∧ Hid (RowP wr A n g (fun i => if i < k then mkX K i else X i) (fun i => if i < k then mkY K i else Y i)) ∧ Hid (Free wr (n * 2) g) ∧ w.grownBy wr (some g)) (fun _ i _ => n - (intOf i).toNat)
  case atStart => exact ⟨0, by omega, rfl, rfl, Lib.hid (show RowP w A n g (fun i => if i < 0 then mkX K i else X i) (fun i => if i < 0 then mkY K i else Y i) from by simpa using HA.out), HF, World.grownBy.refl _ _⟩
  case round =>
    obtain ⟨k, hk, rfl, rfl, H1, H2, hgr⟩ := hrel
    have HG := Lib.hid hgr
    clear hgr
    by_cases hlt : k < n
    · obtain rfl := HA.out.1 (by omega)
      obtain ⟨c0, c1⟩ := H1.out.2 k hlt
      have z0 := H2.out (k * 2) (by omega)
      have z1 := H2.out (k * 2 + 1) (by omega)
      have HC := Lib.hid c0
      have HC1 := Lib.hid c1
      have hw : IntKind.i64.wrap ((K + 2 * k : Nat) : Int) = ((K + 2 * k : Nat) : Int) := IntWalk.i64_in _ (by omega)
      go_wp2
      go_roundw
      case rel =>
        refine ⟨k + 1, by omega, by go_num, congrArg (Value.int .i64) (by omega), Lib.hid ?_, Lib.hid ((H2.out.set _ _).set _ _), grown_set (grown_set HG.out)⟩
        rw [show ((K : Int) + 2 * (k : Int)) = mkX K k from by unfold mkX; omega, show mkX K k + 1 = mkY K k from by unfold mkX mkY; omega]
        refine (H1.out.set2 hlt _ _).congr fun i hi => ?_
        by_cases e : i = k
        · subst e; simp
        · by_cases e2 : i < k
          · simp [e, e2, show i < k + 1 by omega]
          · simp [e, e2, show ¬ i < k + 1 by omega]
      case measure => simp [intOf]; omega
    · obtain rfl : k = n := by omega
      go_wp2
      go_ret
      exact ⟨rfl, H1.out.congr fun i hi => ⟨if_pos hi, if_pos hi⟩, H2.out, HG.out⟩
theorem heldPointS (A : Option Addr) (n c g K : Nat) (w : World) (hn : n ≤ 1048576) (hK : K ≤ 100000000) (ha : RowP w A n g (mkX K) (mkY K)) :
    Calls Try.prog 27 #[.slice A n c, .int .i64 (K : Int)] w fun e w' => e = .returned (.int .i64 ((K + 2 * n : Nat) : Int)) ∧ w = w' := by
  have HA := Lib.hid ha
  clear ha
  go_enter Try.func27, Try.ntmps27
  go_wp2
  go_loop [1, 5] (fun m i => ∃ k : Nat, k ≤ n ∧ i = .int .i64 k ∧ m = .int .i64 ((K + 2 * k : Nat) : Int)) (fun _ i => n - (intOf i).toNat)
  case atStart => exact ⟨0, by omega, rfl, rfl⟩
  case round =>
    obtain ⟨k, hk, rfl, rfl⟩ := hrel
    by_cases hlt : k < n
    · obtain rfl := HA.out.1 (by omega)
      obtain ⟨c0, c1⟩ := HA.out.2 k hlt
      unfold mkX at c0
      unfold mkY at c1
      rw [Int.natCast_add (K + 2 * k) 1] at c1
      go_wp2
      go_round
      case rel => exact ⟨k + 1, by omega, by go_num, congrArg (Value.int .i64) (by omega)⟩
      case measure => simp [intOf]; omega
    · obtain rfl : k = n := by omega
      go_wp2
      go_ret
      exact ⟨rfl, rfl⟩
theorem touch_new {w w' : World} {B L : Nat} (h : w.grownBy w' (some w.heap.size)) : Touch w w' B L := ⟨h.os, h.tape, h.output, h.size, fun k hk _ => h.block k hk (by intro e; injection e with e; omega)⟩
theorem RowP.vac {w : World} {A : Option Addr} {n g : Nat} {X Y : Nat → Int} (h : ¬ 0 < n) : RowP w A n g X Y := ⟨fun h' => absurd h' h, fun i hi => absurd hi (by omega)⟩
theorem RowI.vac {w : World} {A : Option Addr} {n g : Nat} {Z : Nat → Int} (h : ¬ 0 < n) : RowI w A n g Z := ⟨fun h' => absurd h' h, fun i hi => absurd hi (by omega)⟩
theorem Free.vac {w : World} {n g : Nat} (h : ¬ 0 < n) : Free w n g := fun i hi => absurd hi (by omega)
theorem markP (A : Option Addr) (n c g K : Nat) (X Y : Nat → Int) (w : World) (hn : n ≤ 1048576) (hK : K ≤ 100000000) (ha : RowP w A n g X Y) (hf : Free w (n * 2) g) :
    Calls Try.prog 25 #[.slice A n c, .int .i64 (K : Int)] w fun e w' => e = .returned (.int .i64 ((K + 2 * n : Nat) : Int)) ∧ RowP w' A n g (mkX K) (mkY K) ∧ Free w' (n * 2) g ∧ ∀ B L, (0 < n → B ≤ g ∧ g < L) → Touch w w' B L := by
  by_cases h : 0 < n
  · exact (markPointS A n c g K X Y w hn hK ha hf).mono fun e w' ⟨h1, h2, h3, h4⟩ => ⟨h1, h2, h3, fun B L hBL => Touch.of_grown h4 (hBL h).1 (hBL h).2⟩
  · exact (markPointS A n c w.heap.size K X Y w hn hK (RowP.vac h) (Free.vac (by omega))).mono fun e w' ⟨h1, h2, h3, h4⟩ => ⟨h1, RowP.vac h, Free.vac (by omega), fun _ _ _ => touch_new h4⟩
theorem markI (A : Option Addr) (n c g K : Nat) (Z : Nat → Int) (w : World) (hn : n ≤ 1048576) (hK : K ≤ 1000000000) (ha : RowI w A n g Z) (hf : Free w n g) :
    Calls Try.prog 26 #[.slice A n c, .int .i64 (K : Int)] w fun e w' => e = .returned (.int .i64 ((K + n : Nat) : Int)) ∧ RowI w' A n g (fun i => ((K + i : Nat) : Int)) ∧ Free w' n g ∧ ∀ B L, (0 < n → B ≤ g ∧ g < L) → Touch w w' B L := by
  by_cases h : 0 < n
  · exact (markIntS A n c g K Z w hn hK ha hf).mono fun e w' ⟨h1, h2, h3, h4⟩ => ⟨h1, h2, h3, fun B L hBL => Touch.of_grown h4 (hBL h).1 (hBL h).2⟩
  · exact (markIntS A n c w.heap.size K Z w hn hK (RowI.vac h) (Free.vac h)).mono fun e w' ⟨h1, h2, h3, h4⟩ => ⟨h1, RowI.vac h, Free.vac h, fun _ _ _ => touch_new h4⟩
set_option maxHeartbeats 1000000 in
theorem markReach (r : Rc) (A D : Option Addr) (c d K : Nat) (w : World) (hn : r.n ≤ 1048576) (hm : r.m ≤ 1048576) (hK : K ≤ 50000000) {B L g1 g2 : Nat} (h : Owned w B L A D r g1 g2) (hL : L ≤ w.heap.size) :
    Calls Try.prog 9 #[.agg #[.slice A r.n c, .int .i64 r.v, .slice D r.m d], .int .i64 (K : Int)] w fun e w' => e = .returned (.int .i64 ((K + 2 * r.n + r.m : Nat) : Int)) ∧ Owned w' B L A D (markR r K) g1 g2 ∧ Touch w w' B L := by
  have H := Lib.hid h
  have H0 := Lib.hid (h.below ((Below.refl w.heap.size w).alloc (Nat.le_refl _) (.cells #[.slice A r.n c, .int .i64 r.v, .slice D r.m d] 29)))
  have HA := Lib.hid (Touch.of_below (B := B) (L := L) ((Below.refl w.heap.size w).alloc (Nat.le_refl _) (.cells #[.slice A r.n c, .int .i64 r.v, .slice D r.m d] 29)))
  clear h
  obtain ⟨K1, HK1⟩ : ∃ K1 : Nat, Hid (K1 = K + 2 * r.n) := ⟨_, Lib.hid rfl⟩
  have hK1 : K1 ≤ 100000000 := by have := HK1.out; omega
  go_enter Try.func9, Try.ntmps9
  go_wp2_with fail
  refine (markP _ _ _ g1 _ _ _ _ hn (by omega) H0.out.1 H0.out.2.1).mono ?_
  rintro e w1 ⟨he, hr1, hf1, ht1⟩
  rw [← HK1.out] at he
  subst he
  have HT1 := Lib.hid (ht1 B L H0.out.2.2.2.2.1)
  have HT1' := Lib.hid (ht1 g1 (g1 + 1) (fun _ => ⟨Nat.le_refl _, Nat.lt_succ_self _⟩))
  have k1 : ∀ j, w1.cell? ⟨w.heap.size, j, none⟩ = (w.alloc (.cells #[.slice A r.n c, .int .i64 r.v, .slice D r.m d] 29)).cell? ⟨w.heap.size, j, none⟩ := fun j => World.cell?_of_block (HT1.out.block _ (by simp) (Or.inr hL))
  have HR1 := Lib.hid (And.intro hr1 hf1)
  have H7 := Lib.hid H.out.2.2.2.2.2.2
  have HX : Hid (0 < r.n → 0 < r.m → g2 < g1 ∨ g1 + 1 ≤ g2) := Lib.hid (fun h1 h2 => by have := H7.out h1 h2; omega)
  have HI := Lib.hid (show RowI w1 D r.m g2 r.Z ∧ Free w1 r.m g2 from by
    by_cases hn0 : 0 < r.n
    · exact ⟨HT1'.out.rowI H0.out.2.2.1 (fun h => HX.out hn0 h), HT1'.out.free H0.out.2.2.2.1 (fun h => H0.out.2.2.1.lt h) (fun h => HX.out hn0 h)⟩
    · have t := ht1 0 0 (fun h => absurd h hn0)
      exact ⟨t.rowI H0.out.2.2.1 (fun h => Or.inr (Nat.zero_le _)), t.free H0.out.2.2.2.1 (fun h => H0.out.2.2.1.lt h) (fun h => Or.inr (Nat.zero_le _))⟩)
  clear hr1 hf1 ht1
  have HC : Hid (∀ j, w1.cell? ⟨w.heap.size, j, none⟩ = (w.alloc (.cells #[.slice A r.n c, .int .i64 r.v, .slice D r.m d] 29)).cell? ⟨w.heap.size, j, none⟩) := Lib.hid k1
  go_wp2_with fail
  refine (markI _ _ _ g2 K1 _ _ hm (by omega) HI.out.1 HI.out.2).mono ?_
  rintro e w2 ⟨rfl, hr2, hf2, ht2⟩
  have HT2 := Lib.hid (ht2 B L H0.out.2.2.2.2.2.1)
  have HP2 := Lib.hid (show RowP w2 A r.n g1 (mkX K) (mkY K) ∧ Free w2 (r.n * 2) g1 from by
    by_cases hm0 : 0 < r.m
    · have t := ht2 g2 (g2 + 1) (fun _ => ⟨Nat.le_refl _, Nat.lt_succ_self _⟩)
      exact ⟨t.row HR1.out.1 (fun h => by have := H7.out h hm0; omega), t.free HR1.out.2 (fun h => HR1.out.1.lt (by omega)) (fun h => by have := H7.out (by omega) hm0; omega)⟩
    · have t := ht2 0 0 (fun h => absurd h hm0)
      exact ⟨t.row HR1.out.1 (fun h => Or.inr (Nat.zero_le _)), t.free HR1.out.2 (fun h => HR1.out.1.lt (by omega)) (fun h => Or.inr (Nat.zero_le _))⟩)
  have HI2 := Lib.hid (And.intro hr2 hf2)
  clear hr2 hf2 ht2 k1
  go_wp2
  go_ret
  refine ⟨ret_int (by have := HK1.out; omega), ⟨HP2.out.1, HP2.out.2, ?_, HI2.out.2, H.out.2.2.2.2⟩, HA.out.trans (HT1.out.trans HT2.out)⟩
  have := HI2.out.1
  rw [HK1.out] at this
  exact this
theorem heldReach (r : Rc) (A D : Option Addr) (c d K : Nat) (w : World) (v : Int) (hn : r.n ≤ 1048576) (hm : r.m ≤ 1048576) (hK : K ≤ 50000000) {B L g1 g2 : Nat} (h : Owned w B L A D (markR r K) g1 g2) :
    Calls Try.prog 10 #[.agg #[.slice A r.n c, .int .i64 v, .slice D r.m d], .int .i64 (K : Int)] w fun e w' => e = .returned (.int .i64 ((K + 2 * r.n + r.m : Nat) : Int)) ∧ Below w.heap.size w w' := by
  have H := Lib.hid h
  have HB0 := Lib.hid ((Below.refl w.heap.size w).alloc (Nat.le_refl _) (.cells #[.slice A r.n c, .int .i64 v, .slice D r.m d] 29))
  clear h
  obtain ⟨K1, HK1⟩ : ∃ K1 : Nat, Hid (K1 = K + 2 * r.n) := ⟨_, Lib.hid rfl⟩
  have hK1 : K1 ≤ 100000000 := by have := HK1.out; omega
  have hz : (0 : Int) ≤ (K1 : Int) := by omega
  obtain ⟨K2, HK2⟩ : ∃ K2 : Nat, Hid (K2 = K1 + r.m) := ⟨_, Lib.hid rfl⟩
  have hz2 : (0 : Int) ≤ (K2 : Int) := by omega
  go_enter Try.func10, Try.ntmps10
  go_wp2_with fail
  refine (heldPointS _ _ _ _ _ _ hn (by omega) (H.out.below HB0.out).1).mono ?_
  rintro e w' ⟨he, rfl⟩
  rw [← HK1.out] at he
  subst he
  go_wp2_with fail
  refine (heldIntS _ _ _ _ K1 _ hm (by omega) (by rw [HK1.out]; exact (H.out.below HB0.out).2.2.1)).mono ?_
  rintro e w1 ⟨he, hb1⟩
  rw [← HK2.out] at he
  subst he
  have HB1 := Lib.hid (HB0.out.trans (hb1.mono (by simp)))
  clear hb1
  go_wp2
  go_ret
  exact ⟨by rw [HK2.out, HK1.out]; rfl, HB1.out⟩
end Go.Proofs.Ytlaffdfnmpkocaa.C1
