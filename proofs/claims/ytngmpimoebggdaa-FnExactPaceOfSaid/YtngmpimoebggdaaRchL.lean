/- The laws' own functions on reaches: the conversion of an argument, the comparison, the marking and the look back. -/
import Derived.Test.YtngmpimoebggdaaRchS
import Derived.Test.YtngmpimoebggdaaIntK
namespace Go.Proofs.Ytngmpimoebggdaa.C1
open Go.ChangeShapes Go.WideShapes Go.ChangeAt Go.RowKit
set_option linter.unusedVariables false

theorem Touch.row {w w' : World} {B L n g : Nat} {A : Option Addr} {X Y : Nat → Int} (t : Touch w w' B L) (h : RowP w A n g X Y) (hg : 0 < n → g < B ∨ L ≤ g) : RowP w' A n g X Y :=
  ⟨h.1, fun i hi => ⟨(World.cell?_of_block (t.block g (h.lt (by omega)) (hg (by omega)))).trans (h.2 i hi).1, (World.cell?_of_block (t.block g (h.lt (by omega)) (hg (by omega)))).trans (h.2 i hi).2⟩⟩

/-- A reach whose slices lie in blocks of their own, from B on and below L. -/
def Owned (w : World) (B L : Nat) (A D : Option Addr) (r : Rc) (g1 g2 : Nat) : Prop :=
  RowP w A r.n g1 r.X r.Y ∧ Free w (r.n * 2) g1 ∧ RowI w D r.m g2 r.Z ∧ Free w r.m g2 ∧ (0 < r.n → B ≤ g1 ∧ g1 < L) ∧ (0 < r.m → B ≤ g2 ∧ g2 < L) ∧ (0 < r.n → 0 < r.m → g1 ≠ g2)
theorem Owned.below {w w' : World} {B L g1 g2 : Nat} {A D : Option Addr} {r : Rc} (h : Owned w B L A D r g1 g2) (hb : Below w.heap.size w w') : Owned w' B L A D r g1 g2 :=
  ⟨h.1.below hb, h.2.1.below (fun hn => h.1.lt (by omega)) hb, h.2.2.1.below hb, h.2.2.2.1.below (fun hn => h.2.2.1.lt hn) hb, h.2.2.2.2⟩
theorem Owned.touch {w w' : World} {B L B' L' g1 g2 : Nat} {A D : Option Addr} {r : Rc} (h : Owned w B L A D r g1 g2) (t : Touch w w' B' L') (hd : L ≤ B' ∨ L' ≤ B) : Owned w' B L A D r g1 g2 := by
  obtain ⟨h1, h2, h3, h4, h5, h6, h7⟩ := h
  have o1 : 0 < r.n → g1 < B' ∨ L' ≤ g1 := fun hn => by have := h5 hn; omega
  have o2 : 0 < r.m → g2 < B' ∨ L' ≤ g2 := fun hn => by have := h6 hn; omega
  exact ⟨t.row h1 o1, t.free h2 (fun hn => h1.lt (by omega)) (fun hn => o1 (by omega)), t.rowI h3 o2, t.free h4 (fun hn => h3.lt hn) o2, h5, h6, h7⟩
theorem Owned.wide {w : World} {B L B' L' g1 g2 : Nat} {A D : Option Addr} {r : Rc} (h : Owned w B L A D r g1 g2) (hB : B' ≤ B) (hL : L ≤ L') : Owned w B' L' A D r g1 g2 :=
  ⟨h.1, h.2.1, h.2.2.1, h.2.2.2.1, fun hn => by have := h.2.2.2.2.1 hn; omega, fun hn => by have := h.2.2.2.2.2.1 hn; omega, h.2.2.2.2.2.2⟩
theorem Owned.pts {w : World} {B L g1 g2 : Nat} {A D : Option Addr} {r : Rc} (h : Owned w B L A D r g1 g2) : Pts w A r.n r.X r.Y := h.1.pts
theorem Owned.ints {w : World} {B L g1 g2 : Nat} {A D : Option Addr} {r : Rc} (h : Owned w B L A D r g1 g2) : Ints w D r.m r.Z := h.2.2.1.ints
/-- What a function that gives a reach leaves: the reach in memory of its own, all else as it was. -/
def GivesR (w : World) (r : Rc) (e : Ending) (w' : World) : Prop :=
  (∃ A c D d g1 g2, e = .returned (.agg #[.slice A r.n c, .int .i64 r.v, .slice D r.m d]) ∧ r.m ≤ d ∧ Owned w' w.heap.size w'.heap.size A D r g1 g2) ∧ Below w.heap.size w w'

set_option maxHeartbeats 1000000 in
theorem toReach (r : Rc) (A D : Option Addr) (c d : Nat) (w : World) (hn : r.n ≤ 1048576) (hm : r.m ≤ 1048576) (hp : SrcPts w A r.n r.X r.Y) (hd : SrcI w D r.m r.Z) :
    Calls Try.prog 29 #[.agg #[.slice A r.n c, .int .i64 r.v, .slice D r.m d]] w (GivesR w r) := by
  have HP := Lib.hid hp
  have HD := Lib.hid hd
  clear hp hd
  go_enter Try.func29, Try.ntmps29
  go_wp2_with fail
  have HB0 := Lib.hid ((((Below.refl w.heap.size w).alloc (Nat.le_refl _) (.cells #[.slice A r.n c, .int .i64 r.v, .slice D r.m d] 49)).alloc (by simp) (.cells #[.slice none 0 0, .int .i64 0, .slice none 0 0] 54)).alloc (by simp; omega) (.cells #[.slice none 0 0, .int .i64 0, .slice none 0 0] 54))
  refine (toPointS _ _ _ _ hn _ _ (HP.out.below HB0.out)).mono ?_
  rintro e w1 ⟨rfl, hb1, hr1⟩
  have hz1 : w.heap.size + 1 + 1 < w1.heap.size := by have := hb1.size; simp at this; omega
  have hz0 : w.heap.size + 1 + 1 + 1 < w1.heap.size := by have := hr1.lt; simpa using this
  have hz1a : w.heap.size + 1 < w1.heap.size := by omega
  have hz1b : w.heap.size < w1.heap.size := by omega
  have HB1 := Lib.hid (HB0.out.trans (hb1.mono (by simp; omega)))
  obtain ⟨k1, f1⟩ := bcell hb1
  have hr1' := RowP.of_row hr1
  simp at hr1'
  have HR1 := Lib.hid hr1'
  clear hb1 hr1 hr1'
  go_wp2_with fail
  have HS := Lib.hid (show Below w.heap.size w ((w1.setCell ⟨w.heap.size + 1 + 1, 0, none⟩ (.slice (some ⟨w.heap.size + 1 + 1 + 1, 0, none⟩) r.n r.n)).setCell ⟨w.heap.size + 1 + 1, 1, none⟩ (.int .i64 r.v)) from
    (HB1.out.setCell (by show w.heap.size ≤ w.heap.size + 1 + 1; omega) _).setCell (by show w.heap.size ≤ w.heap.size + 1 + 1; omega) _)
  refine (toIntS _ _ _ _ hm _ (HD.out.below HS.out)).mono ?_
  rintro e w2 ⟨rfl, hb2, hr2⟩
  have hz2 : w1.heap.size < w2.heap.size := by have := hr2.lt; simpa using this
  have HB2 := Lib.hid (HS.out.trans (hb2.mono (by simp; omega)))
  obtain ⟨k2, f2⟩ := bcell hb2
  have hr2' := RowI.of_row hr2
  simp at hr2'
  have HR2 := Lib.hid hr2'
  clear hr2 hr2'
  have HT := Lib.hid (show Touch w1 w2 (w.heap.size + 1 + 1) (w.heap.size + 1 + 1 + 1) from
    (((Touch.refl w1 _ _).set (w.heap.size + 1 + 1) 0 _ (Nat.le_refl _) (Nat.lt_succ_self _)).set (w.heap.size + 1 + 1) 1 _ (Nat.le_refl _) (Nat.lt_succ_self _)).trans (Touch.of_below hb2))
  clear hb2
  go_wp2
  refine bodyPost_ret (v := .agg #[.slice (some ⟨w.heap.size + 1 + 1 + 1, 0, none⟩) r.n r.n, .int .i64 r.v, .slice (some ⟨w1.heap.size, 0, none⟩) r.m r.m]) (by simp [results, Try.results29, go_sem, k1, k2, hz1a]) rfl ?_
  clear k1 k2 f1 f2
  have HU := Lib.hid (((((Touch.refl w2 (w.heap.size + 1) (w.heap.size + 1 + 1 + 1)).set (w.heap.size + 1 + 1) 2 (.slice (some ⟨w1.heap.size, 0, none⟩) r.m r.m) (by omega) (by omega)).set (w.heap.size + 1) 0 (.slice (some ⟨w.heap.size + 1 + 1 + 1, 0, none⟩) r.n r.n) (by omega) (by omega)).set (w.heap.size + 1) 1 (.int .i64 r.v) (by omega) (by omega)).set (w.heap.size + 1) 2 (.slice (some ⟨w1.heap.size, 0, none⟩) r.m r.m) (by omega) (by omega))
  have hs := HU.out.size
  refine ⟨⟨_, _, _, _, w.heap.size + 1 + 1 + 1, w1.heap.size, rfl, Nat.le_refl _, ?_⟩, HU.out.below HB2.out (by omega)⟩
  exact ⟨HU.out.row (HT.out.row HR1.out.1 (fun _ => by omega)) (fun _ => by omega), HU.out.free (HT.out.free HR1.out.2 (fun _ => by have := HR1.out.1.lt (by omega); omega) (fun _ => by omega)) (fun _ => by omega) (fun _ => by omega),
    HU.out.rowI HR2.out.1 (fun _ => by omega), HU.out.free HR2.out.2 (fun _ => by omega) (fun _ => by omega), fun _ => ⟨by omega, by omega⟩, fun _ => ⟨by omega, by omega⟩, fun _ _ => by omega⟩
theorem eqReach (r : Rc) (A D A' D' : Option Addr) (c d c' d' : Nat) (w : World) (hn : r.n ≤ 1048576) (hm : r.m ≤ 1048576) {B L g1 g2 B' L' g1' g2' : Nat} (h : Owned w B L A D r g1 g2) (h' : Owned w B' L' A' D' r g1' g2') :
    Calls Try.prog 31 #[.agg #[.slice A r.n c, .int .i64 r.v, .slice D r.m d], .agg #[.slice A' r.n c', .int .i64 r.v, .slice D' r.m d']] w fun e w' => e = .returned (.bool true) ∧ Below w.heap.size w w' := by
  have H := Lib.hid h
  have H' := Lib.hid h'
  clear h h'
  have HB0 := Lib.hid (((Below.refl w.heap.size w).alloc (Nat.le_refl _) (.cells #[.slice A r.n c, .int .i64 r.v, .slice D r.m d] 54)).alloc (by simp) (.cells #[.slice A' r.n c', .int .i64 r.v, .slice D' r.m d'] 54))
  go_enter Try.func31, Try.ntmps31
  go_wp2_with fail
  refine (eqPointS _ _ _ _ _ _ hn _ _ (H.out.below HB0.out).pts (H'.out.below HB0.out).pts).mono ?_
  rintro e w1 ⟨rfl, hb1⟩
  have HB1 := Lib.hid (HB0.out.trans (hb1.mono (by simp; omega)))
  obtain ⟨k1, f1⟩ := bcell hb1
  clear hb1 f1
  go_wp2_with fail
  refine (eqIntS _ _ _ _ _ _ _ _ hm _ (H.out.below HB1.out).2.2.1 (H'.out.below HB1.out).2.2.1).mono ?_
  rintro e w2 ⟨rfl, hb2⟩
  have HB2 := Lib.hid (HB1.out.trans (hb2.mono HB1.out.size))
  clear hb2 k1
  go_wp2
  go_ret
  exact ⟨rfl, HB2.out⟩
theorem szReach_no (A D : Option Addr) (n c m d : Nat) (v : Int) (w : World) (l : Int) (h1 : 0 ≤ l) (h2 : l ≤ 1048576) (hn : n ≤ 9223372036854775807) (hm : m ≤ 9223372036854775807) (h : l < n + m) :
    Calls Try.prog 27 #[.agg #[.slice A n c, .int .i64 v, .slice D m d], .int .i64 l] w fun e w' => e = .returned (.int .i64 (-1)) ∧ Below w.heap.size w w' := by
  by_cases hc : l < n
  · go_enter Try.func27, Try.ntmps27
    go_wp2_with fail
    refine (szPointS_no _ _ _ _ _ h1 h2 hn hc).mono ?_
    rintro e w' ⟨rfl, rfl⟩
    go_wp2
    go_ret
    exact ⟨rfl, (Below.refl _ _).alloc (Nat.le_refl _) _⟩
  · have hc' : (n : Int) ≤ l := by omega
    clear hc
    go_enter Try.func27, Try.ntmps27
    go_wp2_with fail
    refine (szPointS_yes _ _ _ _ _ h1 h2 hc').mono ?_
    rintro e w' ⟨rfl, rfl⟩
    go_wp2_with fail
    refine (szIntS_no _ _ _ _ _ (by omega) (by omega) hm (by omega)).mono ?_
    rintro e w' ⟨rfl, rfl⟩
    go_wp2
    go_ret
    exact ⟨rfl, (Below.refl _ _).alloc (Nat.le_refl _) _⟩
theorem szReach_yes (A D : Option Addr) (n c m d : Nat) (v : Int) (w : World) (l : Int) (h1 : 0 ≤ l) (h2 : l ≤ 1048576) (h : (n : Int) + m ≤ l) :
    Calls Try.prog 27 #[.agg #[.slice A n c, .int .i64 v, .slice D m d], .int .i64 l] w fun e w' => e = .returned (.int .i64 (l - n - m)) ∧ Below w.heap.size w w' := by
  go_enter Try.func27, Try.ntmps27
  go_wp2_with fail
  refine (szPointS_yes _ _ _ _ _ h1 h2 (by omega)).mono ?_
  rintro e w' ⟨rfl, rfl⟩
  go_wp2_with fail
  refine (szIntS_yes _ _ _ _ _ (by omega) (by omega) (by omega)).mono ?_
  rintro e w' ⟨rfl, rfl⟩
  go_wp2
  go_ret
  exact ⟨rfl, (Below.refl _ _).alloc (Nat.le_refl _) _⟩
theorem RowP.congr {w : World} {A : Option Addr} {n g : Nat} {X Y X' Y' : Nat → Int} (h : RowP w A n g X Y) (e : ∀ i, i < n → X i = X' i ∧ Y i = Y' i) : RowP w A n g X' Y' :=
  ⟨h.1, fun i hi => by rw [← (e i hi).1, ← (e i hi).2]; exact h.2 i hi⟩
theorem RowP.set2 {w : World} {A : Option Addr} {n g k : Nat} {X Y : Nat → Int} (h : RowP w A n g X Y) (hk : k < n) (x y : Int) :
    RowP ((w.setCell ⟨g, k * 2, none⟩ (.int .i64 x)).setCell ⟨g, k * 2 + 1, none⟩ (.int .i64 y)) A n g (fun i => if i = k then x else X i) (fun i => if i = k then y else Y i) := by
  refine ⟨h.1, fun i hi => ?_⟩
  obtain ⟨c0, c1⟩ := h.2 i hi
  show _ = some (Value.int .i64 (if i = k then x else X i)) ∧ _ = some (Value.int .i64 (if i = k then y else Y i))
  by_cases e : i = k
  · subst e
    rw [if_pos rfl, if_pos rfl]
    refine ⟨(World.cell?_setCell_other _ _ _ _ (by intro h; injection h with _ h; omega)).trans (World.cell?_setCell_same _ _ _ c0), World.cell?_setCell_same _ _ _ ((World.cell?_setCell_other _ _ _ _ (by intro h; injection h with _ h; omega)).trans c1)⟩
  · rw [if_neg e, if_neg e]
    exact ⟨(World.cell?_setCell_other _ _ _ _ (by intro h; injection h with _ h; omega)).trans ((World.cell?_setCell_other _ _ _ _ (by intro h; injection h with _ h; omega)).trans c0), (World.cell?_setCell_other _ _ _ _ (by intro h; injection h with _ h; omega)).trans ((World.cell?_setCell_other _ _ _ _ (by intro h; injection h with _ h; omega)).trans c1)⟩
theorem Free.set {w : World} {n g : Nat} (h : Free w n g) (a : Addr) (u : Value) : Free (w.setCell a u) n g := fun i hi => by rw [World.frozen?_setCell]; exact h i hi
def mkX (K i : Nat) : Int := ((K + 2 * i : Nat) : Int)
def mkY (K i : Nat) : Int := ((K + 2 * i + 1 : Nat) : Int)
/-- A reach whose elements were marked with the numbers from K on. -/
def markR (r : Rc) (K : Nat) : Rc := { r with X := mkX K, Y := mkY K, Z := fun i => ((K + 2 * r.n + i : Nat) : Int) }
end Go.Proofs.Ytngmpimoebggdaa.C1
