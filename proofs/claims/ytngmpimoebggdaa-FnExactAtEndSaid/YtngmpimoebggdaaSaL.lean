/- Ways and movers: their conversion and comparison by the laws; whether they are valid, of the program and of its model. -/
import Derived.Test.YtngmpimoebggdaaSaM
import Derived.Test.YtngmpimoebggdaaTrLw
import Derived.Test.YtngmpimoebggdaaTrnL
import Derived.Test.YtngmpimoebggdaaTrI5
import Derived.Test.YtngmpimoebggdaaTrnV
import Derived.Test.YtngmpimoebggdaaRchL
namespace Go.Proofs.Ytngmpimoebggdaa.C1
open Go.ChangeShapes Go.WideShapes Go.ChangeAt Go.RowKit
set_option linter.unusedVariables false

/-- A mover's box. -/
def MBox (w : World) (g : Nat) (m : Mv) (A : Option Addr) (c : Nat) (t : TypeId) : Prop := Box w g (.bool m.up) (.slice A m.T.length c) (.int .i64 m.p) t
section
variable {w w' : World} {g c : Nat} {m : Mv} {A : Option Addr} {t : TypeId}
theorem MBox.below (h : MBox w g m A c t) (hb : Below w.heap.size w w') : MBox w' g m A c t := Box.below h hb
theorem MBox.alloc (h : MBox w g m A c t) (o : Obj) : MBox (w.alloc o) g m A c t := Box.alloc h o
theorem MBox.touch {B L : Nat} (h : MBox w g m A c t) (hb : Touch w w' B L) (ho : g < B ∨ L ≤ g) : MBox w' g m A c t := Box.touch h hb ho
theorem MBox.new (w : World) (m : Mv) (A : Option Addr) (c : Nat) (t : TypeId) : MBox (w.alloc (.cells #[.bool m.up, .slice A m.T.length c, .int .i64 m.p] t)) w.heap.size m A c t := Box.new w _ _ _ t
theorem MBox.at (h : MBox w g m A c t) : w.cell? ⟨g, 0, none⟩ = some (.bool m.up) ∧ w.cell? ⟨g, 1, none⟩ = some (.slice A m.T.length c) ∧ w.cell? ⟨g, 2, none⟩ = some (.int .i64 m.p) := Box.at h
theorem MBox.lt (h : MBox w g m A c t) : g < w.heap.size := Box.lt h
end
/-- A way's box. -/
def WBox (w : World) (g : Nat) (y : Wy) (t : TypeId) : Prop := w.heap[g]? = some (.cells #[.int .i64 y.l, .int .i64 y.b] t (0, 0))
section
variable {w w' : World} {g : Nat} {y : Wy} {t : TypeId}
theorem WBox.lt (h : WBox w g y t) : g < w.heap.size := (Array.getElem?_eq_some_iff.1 h).1
theorem WBox.below (h : WBox w g y t) (hb : Below w.heap.size w w') : WBox w' g y t := (hb.block g h.lt).trans h
theorem WBox.alloc (h : WBox w g y t) (o : Obj) : WBox (w.alloc o) g y t := (Below.heap_alloc w o g h.lt).trans h
theorem WBox.new (w : World) (y : Wy) (t : TypeId) : WBox (w.alloc (.cells #[.int .i64 y.l, .int .i64 y.b] t)) w.heap.size y t := heap_alloc_new w _
theorem WBox.at (h : WBox w g y t) : w.cell? ⟨g, 0, none⟩ = some (.int .i64 y.l) ∧ w.cell? ⟨g, 1, none⟩ = some (.int .i64 y.b) := by
  unfold WBox at h
  unfold World.cell?
  simp [h]
end
/-- What a function that gives a mover of its own leaves. -/
def GivesM (w : World) (m : Mv) (e : Ending) (w' : World) : Prop := (∃ A' c' g G, e = .returned (.agg #[.bool m.up, .slice A' m.T.length c', .int .i64 m.p]) ∧ m.T.length ≤ c' ∧ OwnT w' w.heap.size w'.heap.size A' m.T g G) ∧ Below w.heap.size w w'
set_option maxRecDepth 100000 in
set_option maxHeartbeats 2000000 in
theorem toMover (C : Mv) (A : Option Addr) (c : Nat) (w : World) (hn : C.T.length ≤ 1048576) (hr : ∀ r ∈ C.T, r.length ≤ 1048576) (hp : SrcTrn w A C.T) :
    Calls Try.prog 21 #[.agg #[.bool C.up, .slice A C.T.length c, .int .i64 C.p]] w (GivesM w C) := by
  have HP := vl hp
  have HN := vl hr
  clear hp hr
  have HB0 := vl ((((Below.refl w.heap.size w).alloc (Nat.le_refl _) (.cells #[.bool C.up, .slice A C.T.length c, .int .i64 C.p] 34)).alloc (by simp) (.cells #[.bool false, .slice none 0 0, .int .i64 0] 40)).alloc (by simp; omega) (.cells #[.bool false, .slice none 0 0, .int .i64 0] 40))
  have hx0 : Box (((w.alloc (.cells #[.bool C.up, .slice A C.T.length c, .int .i64 C.p] 34)).alloc (.cells #[.bool false, .slice none 0 0, .int .i64 0] 40)).alloc (.cells #[.bool false, .slice none 0 0, .int .i64 0] 40)) w.heap.size (.bool C.up) (.slice A C.T.length c) (.int .i64 C.p) 34 := ((Box.new w (.bool C.up) (.slice A C.T.length c) (.int .i64 C.p) 34).alloc _).alloc _
  have hy0 : Box (((w.alloc (.cells #[.bool C.up, .slice A C.T.length c, .int .i64 C.p] 34)).alloc (.cells #[.bool false, .slice none 0 0, .int .i64 0] 40)).alloc (.cells #[.bool false, .slice none 0 0, .int .i64 0] 40)) (w.heap.size + 1) (.bool false) (.slice none 0 0) (.int .i64 0) 40 := by
    have := (Box.new (w.alloc (.cells #[.bool C.up, .slice A C.T.length c, .int .i64 C.p] 34)) (.bool false) (.slice none 0 0) (.int .i64 0) 40).alloc (.cells #[.bool false, .slice none 0 0, .int .i64 0] 40)
    simpa using this
  have hz0 : Box (((w.alloc (.cells #[.bool C.up, .slice A C.T.length c, .int .i64 C.p] 34)).alloc (.cells #[.bool false, .slice none 0 0, .int .i64 0] 40)).alloc (.cells #[.bool false, .slice none 0 0, .int .i64 0] 40)) (w.heap.size + 1 + 1) (.bool false) (.slice none 0 0) (.int .i64 0) 40 := by
    have := Box.new ((w.alloc (.cells #[.bool C.up, .slice A C.T.length c, .int .i64 C.p] 34)).alloc (.cells #[.bool false, .slice none 0 0, .int .i64 0] 40)) (.bool false) (.slice none 0 0) (.int .i64 0) 40
    simpa using this
  have HX0 := vl hx0
  have HY0 := vl hy0
  have HZ0 := vl hz0
  clear hx0 hy0 hz0
  go_enter Try.func21, Try.ntmps21
  go_wp2_with fail
  refine (toTrain C.up A c C.T _ hn HN.out (HP.out.below HB0.out)).mono ?_
  rintro e w1 ⟨⟨A2, c2, g2, G2, rfl, hc2, ho2⟩, hb1⟩
  have q1 : w.heap.size + 1 + 1 + 1 ≤ w1.heap.size := by have := hb1.size; simpa using this
  have HB1 := vl (HB0.out.trans (hb1.mono (by simp; omega)))
  have HX1 := vl (HX0.out.below hb1)
  have HY1 := vl (HY0.out.below hb1)
  have HZ1 := vl (HZ0.out.below hb1)
  have HO := vl ho2
  clear hb1 ho2 HX0 HY0 HZ0
  have q2 : w.heap.size + 1 + 1 < w1.heap.size := by omega
  have q3 : w.heap.size + 1 < w1.heap.size := by omega
  have q4 : w.heap.size < w1.heap.size := by omega
  obtain ⟨x0, x1, x2⟩ := HX1.out.at
  obtain ⟨y0, y1, y2⟩ := HY1.out.at
  obtain ⟨f0, f1, f2⟩ := HY1.out.free
  obtain ⟨z0, z1, z2⟩ := HZ1.out.at
  obtain ⟨h0, h1, h2⟩ := HZ1.out.free
  go_wp2
  refine bodyPost_ret (v := .agg #[.bool C.up, .slice A2 C.T.length c2, .int .i64 C.p]) (by simp [results, Try.results21, go_sem, y0, y1, y2]) rfl ?_
  clear x0 x1 x2 y0 y1 y2 f0 f1 f2 z0 z1 z2 h0 h1 h2
  have hO := HO.out
  simp only [World.size_alloc] at hO
  have key : ∀ W' : World, Touch w1 W' (w.heap.size + 1) (w.heap.size + 1 + 1 + 1) → GivesM w C (.returned (.agg #[.bool C.up, .slice A2 C.T.length c2, .int .i64 C.p])) W' := fun W' hT =>
    ⟨⟨A2, c2, g2, G2, rfl, hc2, (hO.touch hT (Or.inr (Nat.le_refl _))).wide (by omega) hT.size⟩, hT.below HB1.out (by omega)⟩
  refine key _ ?_
  iterate 6 (with_reducible refine Touch.set ?_ _ _ _ (by omega) (by omega))
  exact Touch.refl _ _ _
set_option maxHeartbeats 1000000 in
theorem eqMover (C : Mv) (A A' : Option Addr) (c c' : Nat) (w : World) (hn : C.T.length ≤ 1048576) (hr : ∀ r ∈ C.T, r.length ≤ 1048576) (hp : Trn w A C.T) (hp' : Trn w A' C.T) :
    Calls Try.prog 24 #[.agg #[.bool C.up, .slice A C.T.length c, .int .i64 C.p], .agg #[.bool C.up, .slice A' C.T.length c', .int .i64 C.p]] w fun e w' => e = .returned (.bool true) ∧ Below w.heap.size w w' := by
  have HB0 := vl (((Below.refl w.heap.size w).alloc (Nat.le_refl _) (.cells #[.bool C.up, .slice A C.T.length c, .int .i64 C.p] 40)).alloc (by simp) (.cells #[.bool C.up, .slice A' C.T.length c', .int .i64 C.p] 40))
  have hx0 := (MBox.new w C A c 40).alloc (.cells #[.bool C.up, .slice A' C.T.length c', .int .i64 C.p] 40)
  have hy0 : MBox ((w.alloc (.cells #[.bool C.up, .slice A C.T.length c, .int .i64 C.p] 40)).alloc (.cells #[.bool C.up, .slice A' C.T.length c', .int .i64 C.p] 40)) (w.heap.size + 1) C A' c' 40 := by
    have := MBox.new (w.alloc (.cells #[.bool C.up, .slice A C.T.length c, .int .i64 C.p] 40)) C A' c' 40
    simpa using this
  have HX0 := vl hx0
  have HY0 := vl hy0
  have HP := vl (hp.below HB0.out)
  have HP' := vl (hp'.below HB0.out)
  have HR := vl hr
  clear hp hp' hr hx0 hy0
  go_enter Try.func24, Try.ntmps24
  go_wp2_with fail
  refine (eqTrain C.up A A' c c' C.T _ hn HR.out HP.out HP'.out).mono ?_
  rintro e w1 ⟨rfl, hb1⟩
  have HB1 := vl (HB0.out.trans (hb1.mono HB0.out.size))
  have HX1 := vl (HX0.out.below hb1)
  have HY1 := vl (HY0.out.below hb1)
  have q1 := HX1.out.lt
  have q2 := HY1.out.lt
  obtain ⟨x0, x1, x2⟩ := HX1.out.at
  obtain ⟨y0, y1, y2⟩ := HY1.out.at
  clear hb1
  go_wp2
  go_ret
  exact ⟨rfl, HB1.out⟩
theorem szMover_no (C : Mv) (A : Option Addr) (c : Nat) (w : World) (l : Int) (h1 : 0 ≤ l) (h2 : l ≤ 1048576) (ht : ArgT w A C.T) (h : l < (szT C.T : Int)) :
    Calls Try.prog 19 #[.agg #[.bool C.up, .slice A C.T.length c, .int .i64 C.p], .int .i64 l] w fun e w' => e = .returned (.int .i64 (-1)) ∧ Below w.heap.size w w' := by
  have HB0 := vl ((Below.refl w.heap.size w).alloc (Nat.le_refl _) (.cells #[.bool C.up, .slice A C.T.length c, .int .i64 C.p] 34))
  have HT := vl (show ArgT (w.alloc (.cells #[.bool C.up, .slice A C.T.length c, .int .i64 C.p] 34)) A C.T from ⟨ht.len, ht.row, ht.src.below HB0.out⟩)
  clear ht
  go_enter Try.func19, Try.ntmps19
  go_wp2_with fail
  refine (szTrain_no C.up A c C.T _ _ h1 h2 HT.out h).mono ?_
  rintro e w1 ⟨rfl, hb1⟩
  have HB1 := vl (HB0.out.trans (hb1.mono HB0.out.size))
  clear hb1
  go_wp2
  go_ret
  exact ⟨rfl, HB1.out⟩
theorem szMover_yes (C : Mv) (A : Option Addr) (c : Nat) (w : World) (l : Int) (h2 : l ≤ 1048576) (ht : ArgT w A C.T) (h : (szT C.T : Int) ≤ l) :
    Calls Try.prog 19 #[.agg #[.bool C.up, .slice A C.T.length c, .int .i64 C.p], .int .i64 l] w fun e w' => e = .returned (.int .i64 (l - (szT C.T : Int))) ∧ Below w.heap.size w w' := by
  have HB0 := vl ((Below.refl w.heap.size w).alloc (Nat.le_refl _) (.cells #[.bool C.up, .slice A C.T.length c, .int .i64 C.p] 34))
  have HT := vl (show ArgT (w.alloc (.cells #[.bool C.up, .slice A C.T.length c, .int .i64 C.p] 34)) A C.T from ⟨ht.len, ht.row, ht.src.below HB0.out⟩)
  have h0 : 0 ≤ l - (szT C.T : Int) := by omega
  clear ht
  go_enter Try.func19, Try.ntmps19
  go_wp2_with fail
  refine (szTrain_yes C.up A c C.T _ _ h2 HT.out h).mono ?_
  rintro e w1 ⟨rfl, hb1⟩
  have HB1 := vl (HB0.out.trans (hb1.mono HB0.out.size))
  clear hb1
  go_wp2
  go_ret
  exact ⟨rfl, HB1.out⟩
theorem toWay (Y : Wy) (w : World) : Calls Try.prog 22 #[.agg #[.int .i64 Y.l, .int .i64 Y.b]] w fun e w' => e = .returned (.agg #[.int .i64 Y.l, .int .i64 Y.b]) ∧ Below w.heap.size w w' := by
  go_enter Try.func22, Try.ntmps22
  go_wp2
  refine bodyPost_ret (v := .agg #[.int .i64 Y.l, .int .i64 Y.b]) (by simp [results, Try.results22, go_sem]) rfl ?_
  exact ⟨rfl, by (repeat' (first | (with_reducible exact Below.refl _ _) | (with_reducible refine Below.drew ?_) | (with_reducible refine Below.alloc ?_ ?_ _) | (with_reducible refine Below.setCell ?_ ?_ _) | (first | omega | (simp; omega) | (simp; done))))⟩
end Go.Proofs.Ytngmpimoebggdaa.C1
