/- Tariffs: in memory, as a law's argument, their conversion, size and comparison by the laws. -/
import Derived.Test.YtngmpimoebggdaaApp
import Derived.Test.YtngmpimoebggdaaOpenI
import Derived.Test.YtngmpimoebggdaaIntK
import Derived.Test.YtngmpimoebggdaaTs
namespace Go.Proofs.Ytngmpimoebggdaa.C1
open Go.ChangeShapes Go.WideShapes Go.ChangeAt Go.RowKit Go.Deep Go.Joins Go.Proofs.Ytngmpimoebggdaa.Opened
set_option linter.unusedVariables false

/-- A tariff: its base, its price for an area, n prices of classes, m weights. -/
structure Tf where
  b : Int
  p : Int
  n : Nat
  C : Nat → Int
  m : Nat
  W : Nat → Int
def ArgTf (w : World) (T : Tf) (A D : Option Addr) : Prop :=
  T.n ≤ 9223372036854775807 ∧ T.m ≤ 9223372036854775807 ∧ SrcI w A T.n T.C ∧ SrcI w D T.m T.W
section
variable {H : Type} {enc : TypeId × Value → H} {w : World} {base : Nat} {spare : Nat → Bool} {held : Bool}
set_option maxRecDepth 100000 in
theorem open_tariff {r : Reach} {b0 : Nat} {v : Value} {d : DataW H} {ps : List MemPlace} (hv : Value.okWide Try.prog w r b0 59 v) (h : DataW.Trod enc Try.prog w base spare held 59 v d ps) :
    ∃ (T : Tf) (A D : Option Addr) (c d : Nat), v = .agg #[.int .i64 T.b, .int .i64 T.p, .slice A T.n c, .slice D T.m d] ∧ ArgTf w T A D := by
  obtain ⟨v0, v1, v2, v3, y0, y1, y2, y3, n, rfl, _, _, h0, h1, h2, h3⟩ := open_agg4 Try.underlying59 (by kernel_rfl) (by kernel_rfl) hv h
  obtain ⟨z0, hz0, _⟩ := DataW.trod_int Try.underlying3 h0
  obtain ⟨z1, hz1, _⟩ := DataW.trod_int Try.underlying3 h1
  obtain ⟨A, n, c, C, e2, hn, hA⟩ := ints_of_s h2
  obtain ⟨D, m, d, W, e3, hm, hD⟩ := ints_of_s h3
  exact ⟨⟨z0, z1, n, C, m, W⟩, A, D, c, d, by rw [(List.cons.inj hz0).1, (List.cons.inj hz1).1, e2, e3], hn, hm, hA, hD⟩
end
/-- A tariff whose slices lie in blocks of their own, from B on and below L. -/
def OwnTf (w : World) (B L : Nat) (A D : Option Addr) (T : Tf) (g1 g2 : Nat) : Prop :=
  RowI w A T.n g1 T.C ∧ Free w T.n g1 ∧ RowI w D T.m g2 T.W ∧ Free w T.m g2 ∧ (0 < T.n → B ≤ g1 ∧ g1 < L) ∧ (0 < T.m → B ≤ g2 ∧ g2 < L) ∧ (0 < T.n → 0 < T.m → g1 ≠ g2)
theorem OwnTf.below {w w' : World} {B L g1 g2 : Nat} {A D : Option Addr} {T : Tf} (h : OwnTf w B L A D T g1 g2) (hb : Below w.heap.size w w') : OwnTf w' B L A D T g1 g2 :=
  ⟨h.1.below hb, h.2.1.below (fun hn => h.1.lt hn) hb, h.2.2.1.below hb, h.2.2.2.1.below (fun hn => h.2.2.1.lt hn) hb, h.2.2.2.2⟩
theorem OwnTf.touch {w w' : World} {B L B' L' g1 g2 : Nat} {A D : Option Addr} {T : Tf} (h : OwnTf w B L A D T g1 g2) (t : Touch w w' B' L') (hd : L ≤ B' ∨ L' ≤ B) : OwnTf w' B L A D T g1 g2 := by
  obtain ⟨h1, h2, h3, h4, h5, h6, h7⟩ := h
  have o1 : 0 < T.n → g1 < B' ∨ L' ≤ g1 := fun hn => by have := h5 hn; omega
  have o2 : 0 < T.m → g2 < B' ∨ L' ≤ g2 := fun hn => by have := h6 hn; omega
  exact ⟨t.rowI h1 o1, t.free h2 (fun hn => h1.lt hn) o1, t.rowI h3 o2, t.free h4 (fun hn => h3.lt hn) o2, h5, h6, h7⟩
/-- What a function that gives a tariff leaves. -/
def GivesTf (w : World) (T : Tf) (e : Ending) (w' : World) : Prop :=
  (∃ A c D d g1 g2, e = .returned (.agg #[.int .i64 T.b, .int .i64 T.p, .slice A T.n c, .slice D T.m d]) ∧ OwnTf w' w.heap.size w'.heap.size A D T g1 g2) ∧ Below w.heap.size w w'
set_option maxHeartbeats 1000000 in
theorem toTariff (T : Tf) (A D : Option Addr) (c d : Nat) (w : World) (hn : T.n ≤ 1048576) (hm : T.m ≤ 1048576) (hp : SrcI w A T.n T.C) (hd : SrcI w D T.m T.W) :
    Calls Try.prog 34 #[.agg #[.int .i64 T.b, .int .i64 T.p, .slice A T.n c, .slice D T.m d]] w (GivesTf w T) := by
  have HP := Lib.hid hp
  have HD := Lib.hid hd
  clear hp hd
  go_enter Try.func34, Try.ntmps34
  go_wp2_with fail
  refine (toIntS _ _ _ _ hn _ (HP.out.below (by (repeat' (first | (with_reducible exact Below.refl _ _) | (with_reducible refine Below.drew ?_) | (with_reducible refine Below.alloc ?_ ?_ _) | (with_reducible refine Below.setCell ?_ ?_ _) | (first | omega | (simp; omega) | (simp; done))))))).mono ?_
  rintro e w1 ⟨rfl, hb1, hr1⟩
  have HB1 := Lib.hid (Below.trans (show Below w.heap.size w _ from by (repeat' (first | (with_reducible exact Below.refl _ _) | (with_reducible refine Below.drew ?_) | (with_reducible refine Below.alloc ?_ ?_ _) | (with_reducible refine Below.setCell ?_ ?_ _) | (first | omega | (simp; omega) | (simp; done))))) (hb1.mono (by simp; omega)))
  have hz1 : w.heap.size + 1 + 1 < w1.heap.size := by have := hb1.size; simp at this; omega
  have hz0 : w.heap.size + 1 + 1 + 1 < w1.heap.size := by have := hr1.lt; simpa using this
  have hz1a : w.heap.size + 1 < w1.heap.size := by omega
  have hz1b : w.heap.size < w1.heap.size := by omega
  obtain ⟨k1, f1⟩ := bcell hb1
  have hr1' := RowI.of_row hr1
  simp at hr1'
  have HR1 := Lib.hid hr1'
  clear hb1 hr1 hr1'
  go_wp2_with fail
  refine (toIntS _ _ _ _ hm _ (HD.out.below (by (repeat' (first | (with_reducible exact Below.refl _ _) | (with_reducible refine Below.drew ?_) | (with_reducible refine Below.alloc ?_ ?_ _) | (with_reducible refine Below.setCell ?_ ?_ _) | (with_reducible refine Below.trans ?_ (HB1.out.mono ?_)) | (first | omega | (simp; omega) | (simp; done))))))).mono ?_
  rintro e w2 ⟨rfl, hb2, hr2⟩
  have hz2 : w1.heap.size < w2.heap.size := by have := hr2.lt; simpa using this
  have HB2 := Lib.hid (Below.trans (show Below w.heap.size w _ from by (repeat' (first | (with_reducible exact Below.refl _ _) | (with_reducible refine Below.drew ?_) | (with_reducible refine Below.alloc ?_ ?_ _) | (with_reducible refine Below.setCell ?_ ?_ _) | (with_reducible refine Below.trans ?_ (HB1.out.mono ?_)) | (first | omega | (simp; omega) | (simp; done))))) (hb2.mono (by simp; omega)))
  obtain ⟨k2, f2⟩ := bcell hb2
  have hr2' := RowI.of_row hr2
  simp at hr2'
  have HR2 := Lib.hid hr2'
  clear hr2 hr2'
  have HT := Lib.hid (show Touch w1 w2 (w.heap.size + 1 + 1) (w.heap.size + 1 + 1 + 1) from
    (((Touch.refl w1 _ _).set (w.heap.size + 1 + 1) 2 _ (Nat.le_refl _) (Nat.lt_succ_self _))).trans (Touch.of_below hb2))
  clear hb2
  go_wp2
  refine bodyPost_ret (v := .agg #[.int .i64 T.b, .int .i64 T.p, .slice (some ⟨w.heap.size + 1 + 1 + 1, 0, none⟩) T.n T.n, .slice (some ⟨w1.heap.size, 0, none⟩) T.m T.m]) (by simp [results, Try.results34, go_sem, k1, k2, hz1a]) rfl ?_
  clear k1 k2 f1 f2
  have HU := Lib.hid ((((((Touch.refl w2 (w.heap.size + 1) (w.heap.size + 1 + 1 + 1)).set (w.heap.size + 1 + 1) 3 (.slice (some ⟨w1.heap.size, 0, none⟩) T.m T.m) (by omega) (by omega)).set (w.heap.size + 1) 0 (.int .i64 T.b) (by omega) (by omega)).set (w.heap.size + 1) 1 (.int .i64 T.p) (by omega) (by omega)).set (w.heap.size + 1) 2 (.slice (some ⟨w.heap.size + 1 + 1 + 1, 0, none⟩) T.n T.n) (by omega) (by omega)).set (w.heap.size + 1) 3 (.slice (some ⟨w1.heap.size, 0, none⟩) T.m T.m) (by omega) (by omega))
  have hs := HU.out.size
  refine ⟨⟨_, _, _, _, w.heap.size + 1 + 1 + 1, w1.heap.size, rfl, ?_⟩, HU.out.below HB2.out (by omega)⟩
  exact ⟨HU.out.rowI (HT.out.rowI HR1.out.1 (fun _ => by omega)) (fun _ => by omega), HU.out.free (HT.out.free HR1.out.2 (fun _ => by have := HR1.out.1.lt (by assumption); omega) (fun _ => by omega)) (fun _ => by omega) (fun _ => by omega),
    HU.out.rowI HR2.out.1 (fun _ => by omega), HU.out.free HR2.out.2 (fun _ => by omega) (fun _ => by omega), fun _ => ⟨by omega, by omega⟩, fun _ => ⟨by omega, by omega⟩, fun _ _ => by omega⟩
theorem eqTariff (T : Tf) (A D A' D' : Option Addr) (c d c' d' : Nat) (w : World) (hn : T.n ≤ 1048576) (hm : T.m ≤ 1048576) {B L g1 g2 B' L' g1' g2' : Nat} (h : OwnTf w B L A D T g1 g2) (h' : OwnTf w B' L' A' D' T g1' g2') :
    Calls Try.prog 36 #[.agg #[.int .i64 T.b, .int .i64 T.p, .slice A T.n c, .slice D T.m d], .agg #[.int .i64 T.b, .int .i64 T.p, .slice A' T.n c', .slice D' T.m d']] w fun e w' => e = .returned (.bool true) ∧ Below w.heap.size w w' := by
  have H := Lib.hid h
  have H' := Lib.hid h'
  clear h h'
  have HB0 := Lib.hid (((Below.refl w.heap.size w).alloc (Nat.le_refl _) (.cells #[.int .i64 T.b, .int .i64 T.p, .slice A T.n c, .slice D T.m d] 62)).alloc (by simp) (.cells #[.int .i64 T.b, .int .i64 T.p, .slice A' T.n c', .slice D' T.m d'] 62))
  go_enter Try.func36, Try.ntmps36
  go_wp2_with fail
  refine (eqIntS _ _ _ _ _ _ _ _ hn _ (H.out.below HB0.out).1 (H'.out.below HB0.out).1).mono ?_
  rintro e w1 ⟨rfl, hb1⟩
  have HB1 := Lib.hid (HB0.out.trans (hb1.mono (by simp; omega)))
  obtain ⟨k1, f1⟩ := bcell hb1
  clear hb1 f1
  go_wp2_with fail
  refine (eqIntS _ _ _ _ _ _ _ _ hm _ (H.out.below HB1.out).2.2.1 (H'.out.below HB1.out).2.2.1).mono ?_
  rintro e w2 ⟨rfl, hb2⟩
  have HB2 := Lib.hid (HB1.out.trans (hb2.mono HB1.out.size))
  clear hb2 k1
  go_wp2
  go_ret
  exact ⟨rfl, HB2.out⟩
theorem szTariff_no (T : Tf) (A D : Option Addr) (c d : Nat) (w : World) (l : Int) (h1 : 0 ≤ l) (h2 : l ≤ 1048576) (hn : T.n ≤ 9223372036854775807) (hm : T.m ≤ 9223372036854775807) (h : l < T.n + T.m) :
    Calls Try.prog 32 #[.agg #[.int .i64 T.b, .int .i64 T.p, .slice A T.n c, .slice D T.m d], .int .i64 l] w fun e w' => e = .returned (.int .i64 (-1)) ∧ Below w.heap.size w w' := by
  by_cases hc : l < T.n
  · go_enter Try.func32, Try.ntmps32
    go_wp2_with fail
    refine (szIntS_no _ _ _ _ _ h1 h2 hn hc).mono ?_
    rintro e w' ⟨rfl, rfl⟩
    go_wp2
    go_ret
    exact ⟨rfl, (Below.refl _ _).alloc (Nat.le_refl _) _⟩
  · have hc' : (T.n : Int) ≤ l := by omega
    clear hc
    go_enter Try.func32, Try.ntmps32
    go_wp2_with fail
    refine (szIntS_yes _ _ _ _ _ h1 h2 hc').mono ?_
    rintro e w' ⟨rfl, rfl⟩
    go_wp2_with fail
    refine (szIntS_no _ _ _ _ _ (by omega) (by omega) hm (by omega)).mono ?_
    rintro e w' ⟨rfl, rfl⟩
    go_wp2
    go_ret
    exact ⟨rfl, (Below.refl _ _).alloc (Nat.le_refl _) _⟩
theorem szTariff_yes (T : Tf) (A D : Option Addr) (c d : Nat) (w : World) (l : Int) (h1 : 0 ≤ l) (h2 : l ≤ 1048576) (h : (T.n : Int) + T.m ≤ l) :
    Calls Try.prog 32 #[.agg #[.int .i64 T.b, .int .i64 T.p, .slice A T.n c, .slice D T.m d], .int .i64 l] w fun e w' => e = .returned (.int .i64 (l - T.n - T.m)) ∧ Below w.heap.size w w' := by
  go_enter Try.func32, Try.ntmps32
  go_wp2_with fail
  refine (szIntS_yes _ _ _ _ _ h1 h2 (by omega)).mono ?_
  rintro e w' ⟨rfl, rfl⟩
  go_wp2_with fail
  refine (szIntS_yes _ _ _ _ _ (by omega) (by omega) (by omega)).mono ?_
  rintro e w' ⟨rfl, rfl⟩
  go_wp2
  go_ret
  exact ⟨rfl, (Below.refl _ _).alloc (Nat.le_refl _) _⟩
end Go.Proofs.Ytngmpimoebggdaa.C1
