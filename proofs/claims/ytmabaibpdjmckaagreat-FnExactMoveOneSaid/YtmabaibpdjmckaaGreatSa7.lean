/- A mover moves on: the program's function. -/
import Derived.Test.YtmabaibpdjmckaaGreatSa6
namespace Go.Proofs.YtmabaibpdjmckaaGreat.C1
open Go.ChangeShapes Go.WideShapes Go.ChangeAt Go.RowKit
set_option linter.unusedVariables false
set_option linter.unusedSimpArgs false

theorem MBox.out3 {w : World} {g c : Nat} {m : Mv} {A : Option Addr} {t : TypeId} (h : MBox w g m A c t) : Box w g (.bool m.up) (.slice A m.T.length c) (.int .i64 m.p) t := h
theorem below_drew {W w' : World} (h : Below W.drew.heap.size W.drew w') : Below W.heap.size W w' := (Below.refl W.heap.size W).drew.trans h
set_option maxRecDepth 100000 in
set_option maxHeartbeats 4000000 in
theorem copym (C : Mv) (A : Option Addr) (c : Nat) (w : World) (hmt : Mod C.T) (ht : Trn w A C.T) :
    Calls Tryz.prog 28 #[.agg #[.bool C.up, .slice A C.T.length c, .int .i64 C.p]] w (GivesM w C) := by
  have hB := ((Below.refl w.heap.size w).alloc (Nat.le_refl _) (.cells #[.bool C.up, .slice A C.T.length c, .int .i64 C.p] 39)).alloc (by simp) (.cells #[.bool false, .slice none 0 0, .int .i64 0] 39)
  have hX : Box ((w.alloc (.cells #[.bool C.up, .slice A C.T.length c, .int .i64 C.p] 39)).alloc (.cells #[.bool false, .slice none 0 0, .int .i64 0] 39)) w.heap.size (.bool C.up) (.slice A C.T.length c) (.int .i64 C.p) 39 := (Box.new w _ _ _ _).alloc _
  have hZ : Box ((w.alloc (.cells #[.bool C.up, .slice A C.T.length c, .int .i64 C.p] 39)).alloc (.cells #[.bool false, .slice none 0 0, .int .i64 0] 39)) (w.heap.size + 1) (.bool false) (.slice none 0 0) (.int .i64 0) 39 := by
    have h := Box.new (w.alloc (.cells #[.bool C.up, .slice A C.T.length c, .int .i64 C.p] 39)) (.bool false) (.slice none 0 0) (.int .i64 0) 39
    simpa using h
  have hs : ((w.alloc (.cells #[.bool C.up, .slice A C.T.length c, .int .i64 C.p] 39)).alloc (.cells #[.bool false, .slice none 0 0, .int .i64 0] 39)).heap.size = w.heap.size + 2 := by simp
  have HB0 := vl hB
  have HX0 := vl hX
  have HZ0 := vl hZ
  have HT := vl (ht.below hB)
  have HM := vl hmt
  obtain ⟨x0, x1, x2⟩ := hX.at
  obtain ⟨z0, z1, z2⟩ := hZ.at
  obtain ⟨f0, f1, f2⟩ := hZ.free
  clear hB hX hZ ht hmt
  generalize hW : (w.alloc (.cells #[.bool C.up, .slice A C.T.length c, .int .i64 C.p] 39)).alloc (.cells #[.bool false, .slice none 0 0, .int .i64 0] 39) = W at *
  go_enter Tryz.func28, Tryz.ntmps28
  go_wp2
  try rw [hW]
  clear hW
  go_region_with (go_at_call 52; refine (trainOf_impl C.up A c C.T _ HM.out HT.out.drew).mono ?_; rintro e w1 ⟨⟨A1, c1, g1, G1, rfl, hc1, ho1⟩, hb0⟩; have hb1 := below_drew hb0; have HB1 := vl hb1; have HO1 := vl ho1; obtain ⟨x0, x1, x2⟩ := (HX0.out.below hb1).at; obtain ⟨z0, z1, z2⟩ := (HZ0.out.below hb1).at; obtain ⟨f0, f1, f2⟩ := (HZ0.out.below hb1).free; clear ho1 hb0 hb1)
  all_goals
    have q1 := HB1.out.size
    have HBw := vl (HB0.out.trans (HB1.out.mono HB0.out.size))
    go_wp2
    refine bodyPost_ret (v := .agg #[.bool C.up, .slice A1 C.T.length c1, .int .i64 C.p]) (by simp [results, Tryz.results28, go_sem, z0, z1, z2]) rfl ?_
    have hO : OwnT w1 W.heap.size w1.heap.size A1 C.T g1 G1 := HO1.out
    have key : ∀ W' : World, Touch w1 W' (w.heap.size + 1) (w.heap.size + 2) → GivesM w C (.returned (.agg #[.bool C.up, .slice A1 C.T.length c1, .int .i64 C.p])) W' := fun W' hT =>
      ⟨⟨A1, c1, g1, G1, rfl, hc1, (hO.touch hT (Or.inr (by omega))).wide (by omega) hT.size⟩, hT.below HBw.out (by omega)⟩
    refine key _ ?_
    iterate 3 (with_reducible refine Touch.set ?_ _ _ _ (by omega) (by omega))
    exact Touch.refl _ _ _
set_option maxRecDepth 100000 in
set_option maxHeartbeats 4000000 in
theorem mov_impl (C : Mv) (A : Option Addr) (c : Nat) (Y : Wy) (r : Rc) (B D : Option Addr) (b d : Nat) (w : World) (hmt : Mod C.T) (ht : Trn w A C.T) (hn : r.n ≤ 1048576) (hm : r.m ≤ 1048576) (hp : Pts w B r.n r.X r.Y) (hd : Ints w D r.m r.Z) :
    Calls Tryz.prog 10 #[.agg #[.bool C.up, .slice A C.T.length c, .int .i64 C.p], .agg #[.int .i64 Y.l, .int .i64 Y.b], .agg #[.slice B r.n b, .int .i64 r.v, .slice D r.m d]] w (GivesM w (movM C Y r)) := by
  obtain ⟨hX0, hB0⟩ := mwr_new C A c Y r B D b d w ht hp hd
  have hba := (Below.refl (((w.alloc (.cells #[.bool C.up, .slice A C.T.length c, .int .i64 C.p] 39)).alloc (.cells #[.int .i64 Y.l, .int .i64 Y.b] 42)).alloc (.cells #[.slice B r.n b, .int .i64 r.v, .slice D r.m d] 46)).heap.size (((w.alloc (.cells #[.bool C.up, .slice A C.T.length c, .int .i64 C.p] 39)).alloc (.cells #[.int .i64 Y.l, .int .i64 Y.b] 42)).alloc (.cells #[.slice B r.n b, .int .i64 r.v, .slice D r.m d] 46))).alloc (Nat.le_refl _) (.cells #[.bool false, .slice none 0 0, .int .i64 0] 39)
  have hX := hX0.below hba
  have hB := hB0.trans (hba.mono hB0.size)
  have hR : Box ((((w.alloc (.cells #[.bool C.up, .slice A C.T.length c, .int .i64 C.p] 39)).alloc (.cells #[.int .i64 Y.l, .int .i64 Y.b] 42)).alloc (.cells #[.slice B r.n b, .int .i64 r.v, .slice D r.m d] 46)).alloc (.cells #[.bool false, .slice none 0 0, .int .i64 0] 39)) (w.heap.size + 1 + 1 + 1) (.bool false) (.slice none 0 0) (.int .i64 0) 39 := by
    have h := Box.new (((w.alloc (.cells #[.bool C.up, .slice A C.T.length c, .int .i64 C.p] 39)).alloc (.cells #[.int .i64 Y.l, .int .i64 Y.b] 42)).alloc (.cells #[.slice B r.n b, .int .i64 r.v, .slice D r.m d] 46)) (.bool false) (.slice none 0 0) (.int .i64 0) 39
    simpa using h
  have hs : ((((w.alloc (.cells #[.bool C.up, .slice A C.T.length c, .int .i64 C.p] 39)).alloc (.cells #[.int .i64 Y.l, .int .i64 Y.b] 42)).alloc (.cells #[.slice B r.n b, .int .i64 r.v, .slice D r.m d] 46)).alloc (.cells #[.bool false, .slice none 0 0, .int .i64 0] 39)).heap.size = w.heap.size + 4 := by simp
  have HB0 := vl hB
  have HX0 := vl hX
  have HR0 := vl hR
  have HM := vl hmt
  obtain ⟨x0, x1, x2, y0, y1, z0, z1, z2⟩ := hX.at
  obtain ⟨u0, u1, u2⟩ := hR.at
  obtain ⟨f0, f1, f2⟩ := hR.free
  clear hX hB ht hp hd hmt hX0 hB0 hba hR
  generalize hW : (((w.alloc (.cells #[.bool C.up, .slice A C.T.length c, .int .i64 C.p] 39)).alloc (.cells #[.int .i64 Y.l, .int .i64 Y.b] 42)).alloc (.cells #[.slice B r.n b, .int .i64 r.v, .slice D r.m d] 46)).alloc (.cells #[.bool false, .slice none 0 0, .int .i64 0] 39) = W at *
  go_enter Tryz.func10, Tryz.ntmps10
  go_wp2
  try rw [hW]
  clear hW
  go_region_with (first
    | (go_at_call 28; refine (copym C A c _ HM.out HX0.out.tr.drew).mono ?_; rintro e w1 ⟨⟨A1, c1, g1, G1, rfl, hc1, ho1⟩, hb0⟩; have hb1 := below_drew hb0; have HB1 := vl hb1; have HO1 := vl ho1; have HX1 := vl (HX0.out.below hb1); have HR1 := vl (HR0.out.below hb1); obtain ⟨x0, x1, x2, y0, y1, z0, z1, z2⟩ := HX1.out.at; obtain ⟨u0, u1, u2⟩ := HR1.out.at; obtain ⟨f0, f1, f2⟩ := HR1.out.free; clear ho1 hb0 hb1)
    | (go_at_call 27; refine (sailed_impl C A1 c1 Y r B D b d _ HM.out HO1.out.trn hn hm HX1.out.pt HX1.out.dl).mono ?_; rintro e w2 ⟨rfl, hb2⟩; have HB2 := vl hb2; have HO2 := vl (HO1.out.below hb2); obtain ⟨u0, u1, u2⟩ := (HR1.out.below hb2).at; obtain ⟨f0, f1, f2⟩ := (HR1.out.below hb2).free; clear hb2))
  all_goals
    have q1 := HB1.out.size
    have q2 := HB2.out.size
    have hB2 := HB1.out.trans (HB2.out.mono q1)
    have HBw := vl (HB0.out.trans (hB2.mono HB0.out.size))
    clear hB2
    go_wp2
    refine bodyPost_ret (v := .agg #[.bool C.up, .slice A1 C.T.length c1, .int .i64 (movM C Y r).p]) (by simp [results, Tryz.results10, go_sem, u0, u1, u2, movM]) rfl ?_
    have hO : OwnT w2 W.heap.size w1.heap.size A1 C.T g1 G1 := HO2.out
    have key : ∀ W' : World, Touch w2 W' (w.heap.size + 1 + 1 + 1) (w.heap.size + 4) → GivesM w (movM C Y r) (.returned (.agg #[.bool C.up, .slice A1 C.T.length c1, .int .i64 (movM C Y r).p])) W' := fun W' hT =>
      ⟨⟨A1, c1, g1, G1, rfl, hc1, (hO.touch hT (Or.inr (by omega))).wide (by omega) (by have := hT.size; omega)⟩, hT.below HBw.out (by omega)⟩
    refine key _ ?_
    iterate 3 (with_reducible refine Touch.set ?_ _ _ _ (by omega) (by omega))
    exact Touch.refl _ _ _
end Go.Proofs.YtmabaibpdjmckaaGreat.C1
