/- A mover moves on: of the model; marks of movers. -/
import Derived.Test.YtmabaibpdjmckaaGreatSa7
import Derived.Test.YtmabaibpdjmckaaGreatTrnK
namespace Go.Proofs.YtmabaibpdjmckaaGreat.C1
open Go.ChangeShapes Go.WideShapes Go.ChangeAt Go.RowKit
set_option linter.unusedVariables false
set_option linter.unusedSimpArgs false

theorem touch3 {w : World} {g : Nat} (u0 u1 u2 : Value) : Touch w (((w.setCell ⟨g, 0, none⟩ u0).setCell ⟨g, 1, none⟩ u1).setCell ⟨g, 2, none⟩ u2) g (g + 1) :=
  (((Touch.refl w g (g + 1)).set g 0 u0 (Nat.le_refl _) (Nat.lt_succ_self _)).set g 1 u1 (Nat.le_refl _) (Nat.lt_succ_self _)).set g 2 u2 (Nat.le_refl _) (Nat.lt_succ_self _)
theorem WBox.touch {w w' : World} {g B L : Nat} {y : Wy} {t : TypeId} (h : WBox w g y t) (hb : Touch w w' B L) (ho : g < B ∨ L ≤ g) : WBox w' g y t := (hb.block g h.lt ho).trans h
/-- One mover in box p, its rows (S) between B and L. -/
structure OneM (w : World) (p : Nat) (m : Mv) (A : Option Addr) (c B L : Nat) (S : List (List Bt)) (g : Nat) (G : Nat → Nat) : Prop where
  x : Box w p (.bool m.up) (.slice A m.T.length c) (.int .i64 m.p) 39
  o : OwnT w B L A S g G
/-- One reach in box p, its rows between B and L. -/
structure OneR (w : World) (p : Nat) (r : Rc) (A D : Option Addr) (c d B L g1 g2 : Nat) : Prop where
  x : Box w p (.slice A r.n c) (.int .i64 r.v) (.slice D r.m d) 46
  o : Owned w B L A D r g1 g2
section
variable {w w' : World} {p c d B L g g1 g2 : Nat} {m : Mv} {r : Rc} {A D : Option Addr} {S S2 : List (List Bt)} {G : Nat → Nat}
theorem OneM.below (h : OneM w p m A c B L S g G) (hb : Below w.heap.size w w') : OneM w' p m A c B L S g G := ⟨h.x.below hb, h.o.below hb⟩
theorem OneM.touch (h : OneM w p m A c B L S g G) {B' L' : Nat} (t : Touch w w' B' L') (hp : p < B' ∨ L' ≤ p) (hd : L ≤ B' ∨ L' ≤ B) : OneM w' p m A c B L S g G := ⟨h.x.touch t hp, h.o.touch t hd⟩
theorem OneM.mark (h : OneM w p m A c B L S g G) (t : Touch w w' B L) (hp : p < B ∨ L ≤ p) (ho : OwnT w' B L A S2 g G) : OneM w' p m A c B L S2 g G := ⟨h.x.touch t hp, ho⟩
theorem OneR.below (h : OneR w p r A D c d B L g1 g2) (hb : Below w.heap.size w w') : OneR w' p r A D c d B L g1 g2 := ⟨h.x.below hb, h.o.below hb⟩
theorem OneR.touch (h : OneR w p r A D c d B L g1 g2) {B' L' : Nat} (t : Touch w w' B' L') (hp : p < B' ∨ L' ≤ p) (hd : L ≤ B' ∨ L' ≤ B) : OneR w' p r A D c d B L g1 g2 := ⟨h.x.touch t hp, h.o.touch t hd⟩
end
theorem markMover (C : Mv) (A : Option Addr) (c K : Nat) (w : World) (hm : Mod C.T) (hK : K ≤ 50000000) {B L g : Nat} {G : Nat → Nat} (h : OwnT w B L A C.T g G) (hL : L ≤ w.heap.size) :
    Calls Tryz.prog 13 #[.agg #[.bool C.up, .slice A C.T.length c, .int .i64 C.p], .int .i64 (K : Int)] w fun e w' => e = .returned (.int .i64 ((K + 6 * (bts C.T).length : Nat) : Int)) ∧ OwnT w' B L A (markT C.T K) g G ∧ Touch w w' B L := by
  have hb := (Below.refl w.heap.size w).alloc (Nat.le_refl _) (.cells #[.bool C.up, .slice A C.T.length c, .int .i64 C.p] 39)
  have HO := vl (h.below hb)
  have HT := vl (Touch.of_below (B := B) (L := L) hb)
  have hz := hb.size
  clear h hb
  go_enter Tryz.func13, Tryz.ntmps13
  go_wp2_with fail
  refine (markTrain C.up A c K C.T _ hm hK HO.out (by omega)).mono ?_
  rintro e w1 ⟨rfl, ho1, ht1⟩
  have HO1 := vl ho1
  have HT1 := vl (HT.out.trans ht1)
  clear ho1 ht1
  go_wp2
  go_ret
  exact ⟨rfl, HO1.out, HT1.out⟩
theorem heldMover (C : Mv) (A : Option Addr) (c K : Nat) (w : World) (hm : Mod C.T) (hK : K ≤ 50000000) {B L g : Nat} {G : Nat → Nat} (h : OwnT w B L A (markT C.T K) g G) :
    Calls Tryz.prog 15 #[.agg #[.bool C.up, .slice A C.T.length c, .int .i64 C.p], .int .i64 (K : Int)] w fun e w' => e = .returned (.int .i64 ((K + 6 * (bts C.T).length : Nat) : Int)) ∧ Below w.heap.size w w' := by
  have hb := (Below.refl w.heap.size w).alloc (Nat.le_refl _) (.cells #[.bool C.up, .slice A C.T.length c, .int .i64 C.p] 39)
  have HO := vl (h.below hb)
  have HB := vl hb
  obtain ⟨K1, hK1⟩ : ∃ K1, K1 = K + 6 * (bts C.T).length := ⟨_, rfl⟩
  rw [← hK1]
  have hz : (0 : Int) ≤ (K1 : Int) := by omega
  have HK1 := vl hK1
  clear h hb hK1
  go_enter Tryz.func15, Tryz.ntmps15
  go_wp2_with fail
  refine (heldTrain C.up A c K C.T _ hm hK HO.out).mono ?_
  rintro e w1 ⟨he, hb1⟩
  rw [← HK1.out] at he
  subst he
  have HB1 := vl (HB.out.trans (hb1.mono HB.out.size))
  clear hb1
  go_wp2
  go_ret
  exact ⟨rfl, HB1.out⟩
set_option maxRecDepth 100000 in
set_option maxHeartbeats 4000000 in
theorem copym_spec (C : Mv) (A : Option Addr) (c : Nat) (w : World) (hmt : Mod C.T) (ht : Trn w A C.T) :
    Calls Tryz.prog 19 #[.agg #[.bool C.up, .slice A C.T.length c, .int .i64 C.p]] w (GivesM w C) := by
  have hB := ((Below.refl w.heap.size w).alloc (Nat.le_refl _) (.cells #[.bool C.up, .slice A C.T.length c, .int .i64 C.p] 39)).alloc (by simp) (.cells #[.bool false, .slice none 0 0, .int .i64 0] 39)
  have hX : Box ((w.alloc (.cells #[.bool C.up, .slice A C.T.length c, .int .i64 C.p] 39)).alloc (.cells #[.bool false, .slice none 0 0, .int .i64 0] 39)) w.heap.size (.bool C.up) (.slice A C.T.length c) (.int .i64 C.p) 39 := (Box.new w _ _ _ _).alloc _
  have hZ : Box ((w.alloc (.cells #[.bool C.up, .slice A C.T.length c, .int .i64 C.p] 39)).alloc (.cells #[.bool false, .slice none 0 0, .int .i64 0] 39)) (w.heap.size + 1) (.bool false) (.slice none 0 0) (.int .i64 0) 39 := by
    have h := Box.new (w.alloc (.cells #[.bool C.up, .slice A C.T.length c, .int .i64 C.p] 39)) (.bool false) (.slice none 0 0) (.int .i64 0) 39
    simpa using h
  have hs : ((w.alloc (.cells #[.bool C.up, .slice A C.T.length c, .int .i64 C.p] 39)).alloc (.cells #[.bool false, .slice none 0 0, .int .i64 0] 39)).heap.size = w.heap.size + 2 := by simp
  have HB0 := vl hB
  have HX0 := vl hX
  have HZ0 := vl hZ
  have HT := vl (ht.below hB)
  have HM := vl hmt
  obtain ⟨x0, x1, x2⟩ := hX.at
  obtain ⟨z0, z1, z2⟩ := hZ.at
  obtain ⟨f0, f1, f2⟩ := hZ.free
  clear hB hX hZ ht hmt
  generalize hW : (w.alloc (.cells #[.bool C.up, .slice A C.T.length c, .int .i64 C.p] 39)).alloc (.cells #[.bool false, .slice none 0 0, .int .i64 0] 39) = W at *
  go_enter Tryz.func19, Tryz.ntmps19
  go_wp2
  try rw [hW]
  clear hW
  go_region_with (go_at_call 37; refine (copy_spec C.up A c C.T _ HM.out HT.out.drew).mono ?_; rintro e w1 ⟨⟨A1, c1, g1, G1, rfl, hc1, ho1⟩, hb0⟩; have hb1 := below_drew hb0; have HB1 := vl hb1; have HO1 := vl ho1; obtain ⟨x0, x1, x2⟩ := (HX0.out.below hb1).at; obtain ⟨z0, z1, z2⟩ := (HZ0.out.below hb1).at; obtain ⟨f0, f1, f2⟩ := (HZ0.out.below hb1).free; clear ho1 hb0 hb1)
  all_goals
    have q1 := HB1.out.size
    have HBw := vl (HB0.out.trans (HB1.out.mono HB0.out.size))
    go_wp2
    refine bodyPost_ret (v := .agg #[.bool C.up, .slice A1 C.T.length c1, .int .i64 C.p]) (by simp [results, Tryz.results19, go_sem, z0, z1, z2]) rfl ?_
    have hO : OwnT w1 W.heap.size w1.heap.size A1 C.T g1 G1 := HO1.out
    have key : ∀ W' : World, Touch w1 W' (w.heap.size + 1) (w.heap.size + 2) → GivesM w C (.returned (.agg #[.bool C.up, .slice A1 C.T.length c1, .int .i64 C.p])) W' := fun W' hT =>
      ⟨⟨A1, c1, g1, G1, rfl, hc1, (hO.touch hT (Or.inr (by omega))).wide (by omega) hT.size⟩, hT.below HBw.out (by omega)⟩
    refine key _ ?_
    iterate 3 (with_reducible refine Touch.set ?_ _ _ _ (by omega) (by omega))
    exact Touch.refl _ _ _
theorem movS_cases (C : Mv) (Y : Wy) (r : Rc) : (mvB C Y = false ∧ movM C Y r = C) ∨ (mvB C Y = true ∧ rOk r = false ∧ movM C Y r = C) ∨ (mvB C Y = true ∧ rOk r = true ∧ C.up = true ∧ movM C Y r = { C with p := max 0 (C.p - pacZ C.T (depZ Y r)) }) ∨ (mvB C Y = true ∧ rOk r = true ∧ C.up = false ∧ movM C Y r = { C with p := min Y.l (C.p + pacZ C.T (depZ Y r)) }) := by
  cases h : mvB C Y with
  | false => exact Or.inl ⟨rfl, by unfold movM; rw [mov_no (by unfold mayS; rw [h]; rfl)]⟩
  | true =>
    cases h2 : rOk r with
    | false => exact Or.inr (Or.inl ⟨rfl, rfl, by unfold movM; rw [mov_no (by unfold mayS; rw [h2, Bool.and_false])]⟩)
    | true =>
      have h3 : mayS C Y r = true := by unfold mayS; rw [h, h2]; rfl
      have hu : C.up = false ∨ C.up = true := by cases C.up <;> simp
      rcases hu with hu | hu
      · exact Or.inr (Or.inr (Or.inr ⟨rfl, rfl, hu, by unfold movM movP; rw [if_pos h3, hu]; rfl⟩))
      · exact Or.inr (Or.inr (Or.inl ⟨rfl, rfl, hu, by unfold movM movP; rw [if_pos h3, hu]; rfl⟩))
set_option maxRecDepth 100000 in
set_option maxHeartbeats 8000000 in
theorem mov_spec (C : Mv) (A : Option Addr) (c : Nat) (Y : Wy) (r : Rc) (B D : Option Addr) (b d : Nat) (w : World) (hmt : Mod C.T) (ht : Trn w A C.T) (hn : r.n ≤ 1048576) (hm : r.m ≤ 1048576) (hp : Pts w B r.n r.X r.Y) (hd : Ints w D r.m r.Z) :
    Calls Tryz.prog 6 #[.agg #[.bool C.up, .slice A C.T.length c, .int .i64 C.p], .agg #[.int .i64 Y.l, .int .i64 Y.b], .agg #[.slice B r.n b, .int .i64 r.v, .slice D r.m d]] w (GivesM w (movM C Y r)) := by
  obtain ⟨hX0, hB0⟩ := mwr_new C A c Y r B D b d w ht hp hd
  have hba := (Below.refl (((w.alloc (.cells #[.bool C.up, .slice A C.T.length c, .int .i64 C.p] 39)).alloc (.cells #[.int .i64 Y.l, .int .i64 Y.b] 42)).alloc (.cells #[.slice B r.n b, .int .i64 r.v, .slice D r.m d] 46)).heap.size (((w.alloc (.cells #[.bool C.up, .slice A C.T.length c, .int .i64 C.p] 39)).alloc (.cells #[.int .i64 Y.l, .int .i64 Y.b] 42)).alloc (.cells #[.slice B r.n b, .int .i64 r.v, .slice D r.m d] 46))).alloc (Nat.le_refl _) (.cells #[.bool false, .slice none 0 0, .int .i64 0] 39)
  have hX := hX0.below hba
  have hB := hB0.trans (hba.mono hB0.size)
  have hR : Box ((((w.alloc (.cells #[.bool C.up, .slice A C.T.length c, .int .i64 C.p] 39)).alloc (.cells #[.int .i64 Y.l, .int .i64 Y.b] 42)).alloc (.cells #[.slice B r.n b, .int .i64 r.v, .slice D r.m d] 46)).alloc (.cells #[.bool false, .slice none 0 0, .int .i64 0] 39)) (w.heap.size + 1 + 1 + 1) (.bool false) (.slice none 0 0) (.int .i64 0) 39 := by
    have h := Box.new (((w.alloc (.cells #[.bool C.up, .slice A C.T.length c, .int .i64 C.p] 39)).alloc (.cells #[.int .i64 Y.l, .int .i64 Y.b] 42)).alloc (.cells #[.slice B r.n b, .int .i64 r.v, .slice D r.m d] 46)) (.bool false) (.slice none 0 0) (.int .i64 0) 39
    simpa using h
  have hs : ((((w.alloc (.cells #[.bool C.up, .slice A C.T.length c, .int .i64 C.p] 39)).alloc (.cells #[.int .i64 Y.l, .int .i64 Y.b] 42)).alloc (.cells #[.slice B r.n b, .int .i64 r.v, .slice D r.m d] 46)).alloc (.cells #[.bool false, .slice none 0 0, .int .i64 0] 39)).heap.size = w.heap.size + 4 := by simp
  have HB0 := vl hB
  have HX0 := vl hX
  have HR0 := vl hR
  have HM := vl hmt
  have HOk := vl (fun (w : World) (hr : Pts w B r.n r.X r.Y) (hd : Ints w D r.m r.Z) => ok_spec r B D b d w hn hm hr hd)
  obtain ⟨x0, x1, x2, y0, y1, z0, z1, z2⟩ := hX.at
  clear hX hB ht hp hd hmt hX0 hB0 hba hR
  generalize hW : (((w.alloc (.cells #[.bool C.up, .slice A C.T.length c, .int .i64 C.p] 39)).alloc (.cells #[.int .i64 Y.l, .int .i64 Y.b] 42)).alloc (.cells #[.slice B r.n b, .int .i64 r.v, .slice D r.m d] 46)).alloc (.cells #[.bool false, .slice none 0 0, .int .i64 0] 39) = W at *
  have hsW := hs
  go_enter Tryz.func6, Tryz.ntmps6
  go_wp2_with fail
  try rw [hW]
  clear hW
  refine (copym_spec C A c _ HM.out HX0.out.tr).mono ?_
  rintro e w1 ⟨⟨A1, c1, g1, G1, rfl, hc1, ho1⟩, hb1⟩
  have q1 := hb1.size
  have hba := (Below.refl w1.heap.size w1).alloc (Nat.le_refl _) (.cells #[.bool C.up, .slice A1 C.T.length c1, .int .i64 C.p] 39)
  have HB1 := vl ((HB0.out.trans (hb1.mono HB0.out.size)).trans (hba.mono (by omega)))
  have HX1 := vl ((HX0.out.below hb1).below hba)
  have HR1 := vl ((HR0.out.below hb1).below hba)
  have HO1 := vl (ho1.below hba)
  have HV1 := vl (Box.new w1 (.bool C.up) (.slice A1 C.T.length c1) (.int .i64 C.p) 39)
  generalize hw2 : w1.alloc (.cells #[.bool C.up, .slice A1 C.T.length c1, .int .i64 C.p] 39) = w2 at *
  have q2 : w1.heap.size < w2.heap.size := HV1.out.lt
  have qn : ¬ w1.heap.size = w.heap.size + 1 + 1 + 1 := by omega
  have qn' : ¬ w.heap.size + 1 + 1 + 1 = w1.heap.size := by omega
  clear hb1 hba ho1 x0 x1 x2 y0 y1 z0 z1 z2
  obtain ⟨x0, x1, x2, y0, y1, z0, z1, z2⟩ := HX1.out.at
  go_wp2_with fail
  try rw [hw2]
  clear hw2
  have key : ∀ (m : Mv) (z : Int) (wa W' : World), z = m.p → Box wa w1.heap.size (.bool C.up) (.slice A1 C.T.length c1) (.int .i64 z) 39 → OwnT wa W.heap.size w1.heap.size A1 C.T g1 G1 → Below w.heap.size w wa → w1.heap.size < wa.heap.size → m.up = C.up → m.T = C.T → movM C Y r = m → Touch wa W' (w.heap.size + 1 + 1 + 1) (w.heap.size + 4) → GivesM w (movM C Y r) (.returned (.agg #[.bool C.up, .slice A1 C.T.length c1, .int .i64 z])) W' := fun m z wa W' hz hx hO hbw hv e1 e2 e3 hT => by
    rw [e3]
    refine ⟨⟨A1, c1, g1, G1, by rw [hz, e1, e2], by rw [e2]; exact hc1, ?_⟩, hT.below hbw (by omega)⟩
    rw [e2]
    exact (hO.touch hT (Or.inr (by omega))).wide (by omega) (by have := hT.size; omega)
  have HKY := vl key
  clear key
  rcases movS_cases C Y r with ⟨h, hs⟩ | ⟨h, h1, hs⟩ | ⟨h, h1, hu, hs⟩ | ⟨h, h1, hu, hs⟩
  · have HS := vl hs
    have H0 := vl h
    clear h hs
    refine (mvok_spec C A c Y _ HM.out HX1.out.tr).mono ?_
    rintro e w3 ⟨rfl, hb3⟩
    rw [H0.out]
    have q3 := hb3.size
    have HB3 := vl (HB1.out.trans (hb3.mono HB1.out.size))
    have HX3 := vl (HX1.out.below hb3)
    have HR3 := vl (HR1.out.below hb3)
    have HV3 := vl (HV1.out.below hb3)
    have HO3 := vl (HO1.out.below hb3)
    clear hb3 x0 x1 x2 y0 y1 z0 z1 z2
    obtain ⟨v0, v1, v2⟩ := HV3.out.at
    obtain ⟨u0, u1, u2⟩ := HR3.out.at
    obtain ⟨f0, f1, f2⟩ := HR3.out.free
    go_wp2
    refine bodyPost_ret (v := .agg #[.bool C.up, .slice A1 C.T.length c1, .int .i64 (C.p)]) (by simp [results, Tryz.results6, go_sem, u0, u1, u2]) rfl ?_
    exact HKY.out C C.p _ _ rfl HV3.out HO3.out HB3.out (by omega) rfl rfl HS.out (touch3 _ _ _)
  · have HS := vl hs
    have H0 := vl h
    rw [h1] at HOk
    clear h hs h1
    refine (mvok_spec C A c Y _ HM.out HX1.out.tr).mono ?_
    rintro e w3 ⟨rfl, hb3⟩
    rw [H0.out]
    have q3 := hb3.size
    have HB3 := vl (HB1.out.trans (hb3.mono HB1.out.size))
    have HX3 := vl (HX1.out.below hb3)
    have HR3 := vl (HR1.out.below hb3)
    have HV3 := vl (HV1.out.below hb3)
    have HO3 := vl (HO1.out.below hb3)
    clear hb3 x0 x1 x2 y0 y1 z0 z1 z2
    obtain ⟨x0, x1, x2, y0, y1, z0, z1, z2⟩ := HX3.out.at
    go_wp2_with fail
    refine (HOk.out _ HX3.out.pt HX3.out.dl).mono ?_
    rintro e w4 ⟨rfl, hb4⟩
    have q4 := hb4.size
    have HB4 := vl (HB3.out.trans (hb4.mono HB3.out.size))
    have HX4 := vl (HX3.out.below hb4)
    have HR4 := vl (HR3.out.below hb4)
    have HV4 := vl (HV3.out.below hb4)
    have HO4 := vl (HO3.out.below hb4)
    clear hb4 x0 x1 x2 y0 y1 z0 z1 z2
    obtain ⟨v0, v1, v2⟩ := HV4.out.at
    obtain ⟨u0, u1, u2⟩ := HR4.out.at
    obtain ⟨f0, f1, f2⟩ := HR4.out.free
    go_wp2
    refine bodyPost_ret (v := .agg #[.bool C.up, .slice A1 C.T.length c1, .int .i64 (C.p)]) (by simp [results, Tryz.results6, go_sem, u0, u1, u2]) rfl ?_
    exact HKY.out C C.p _ _ rfl HV4.out HO4.out HB4.out (by omega) rfl rfl HS.out (touch3 _ _ _)
  · have H0 := vl h
    rw [h1] at HOk
    have HU := vl hu
    have pb := pacZ_bd C.T (depZ Y r)
    obtain ⟨pc, hpc⟩ : ∃ pc, pacZ C.T (depZ Y r) = pc := ⟨_, rfl⟩
    have HPc := vl (fun (w : World) (ht : Trn w A C.T) => by have h := pace_spec C.up A c C.T (depZ Y r) w HM.out ht; rw [hpc] at h; exact h)
    rw [hpc] at pb hs
    obtain ⟨p0, p1⟩ := pb
    obtain ⟨mw, mt, mp0, mp1⟩ := mvB_iff.1 h
    have ml := (wyB_iff.1 mw).l1
    have HDp := vl (fun (w : World) (hr : Pts w B r.n r.X r.Y) (hd : Ints w D r.m r.Z) => depin_spec Y r B D b d w hn hm hr hd)
    have HS := vl hs
    clear h h1 hpc mw mt hs hu
    refine (mvok_spec C A c Y _ HM.out HX1.out.tr).mono ?_
    rintro e w3 ⟨rfl, hb3⟩
    rw [H0.out]
    have q3 := hb3.size
    have HB3 := vl (HB1.out.trans (hb3.mono HB1.out.size))
    have HX3 := vl (HX1.out.below hb3)
    have HR3 := vl (HR1.out.below hb3)
    have HV3 := vl (HV1.out.below hb3)
    have HO3 := vl (HO1.out.below hb3)
    clear hb3 x0 x1 x2 y0 y1 z0 z1 z2
    obtain ⟨x0, x1, x2, y0, y1, z0, z1, z2⟩ := HX3.out.at
    go_wp2_with fail
    refine (HOk.out _ HX3.out.pt HX3.out.dl).mono ?_
    rintro e w4 ⟨rfl, hb4⟩
    have q4 := hb4.size
    have HB4 := vl (HB3.out.trans (hb4.mono HB3.out.size))
    have HX4 := vl (HX3.out.below hb4)
    have HR4 := vl (HR3.out.below hb4)
    have HV4 := vl (HV3.out.below hb4)
    have HO4 := vl (HO3.out.below hb4)
    clear hb4 x0 x1 x2 y0 y1 z0 z1 z2
    obtain ⟨x0, x1, x2, y0, y1, z0, z1, z2⟩ := HX4.out.at
    go_wp2
    go_region_held3 (fun w' => w'.cell? ⟨w.heap.size, 0, none⟩ = some (.bool C.up) ∧ w'.cell? ⟨w.heap.size, 1, none⟩ = some (.slice A C.T.length c) ∧ w'.cell? ⟨w.heap.size, 2, none⟩ = some (.int .i64 C.p) ∧ w'.cell? ⟨w.heap.size + 1, 0, none⟩ = some (.int .i64 Y.l) ∧ w'.cell? ⟨w.heap.size + 1, 1, none⟩ = some (.int .i64 Y.b) ∧ w'.cell? ⟨w.heap.size + 1 + 1, 0, none⟩ = some (.slice B r.n b) ∧ w'.cell? ⟨w.heap.size + 1 + 1, 1, none⟩ = some (.int .i64 r.v) ∧ w'.cell? ⟨w.heap.size + 1 + 1, 2, none⟩ = some (.slice D r.m d) ∧ Below w4.heap.size w4 w')
      (first | exact ⟨x0, x1, x2, y0, y1, z0, z1, z2, Below.refl _ _⟩ | exact ⟨x0, x1, x2, y0, y1, z0, z1, z2, (Below.refl _ _).drew⟩ | assumption)
      (first
        | (go_at_call 23; obtain ⟨_, _, _, _, _, _, _, _, hb7⟩ : _ ∧ _ ∧ _ ∧ _ ∧ _ ∧ _ ∧ _ ∧ _ ∧ Below w4.heap.size w4 _ := by assumption
           refine (HDp.out _ (HX4.out.pt.below hb7) (HX4.out.dl.below hb7)).mono ?_
           rintro en w' ⟨rfl, hb'⟩
           have S1 := (HX4.out.below hb7).cells hb7 hb'
           clear hb')
        | (go_at_call 22; obtain ⟨_, _, _, _, _, _, _, _, hb7⟩ : _ ∧ _ ∧ _ ∧ _ ∧ _ ∧ _ ∧ _ ∧ _ ∧ Below w4.heap.size w4 _ := by assumption
           refine (HPc.out _ (HX4.out.tr.below hb7)).mono ?_
           rintro en w' ⟨rfl, hb'⟩
           have S2 := (HX4.out.below hb7).cells hb7 hb'
           clear hb'))
    obtain ⟨_, _, _, _, _, _, _, _, hb9⟩ : _ ∧ _ ∧ _ ∧ _ ∧ _ ∧ _ ∧ _ ∧ _ ∧ Below w4.heap.size w4 _ := by assumption
    obtain ⟨w5, hw5⟩ : ∃ u, u = w' := ⟨_, rfl⟩
    rw [← hw5] at hb9 ⊢
    clear hw5 S1 S2 x0 x1 x2 y0 y1 z0 z1 z2
    have q5 := hb9.size
    have HB5 := vl (HB4.out.trans (hb9.mono HB4.out.size))
    have HX5 := vl (HX4.out.below hb9)
    have HR5 := vl (HR4.out.below hb9)
    have HV5 := vl (HV4.out.below hb9)
    have HO5 := vl (HO4.out.below hb9)
    clear hb9
    obtain ⟨x0, x1, x2, y0, y1, z0, z1, z2⟩ := HX5.out.at
    obtain ⟨v0, v1, v2⟩ := HV5.out.at
    obtain ⟨f0, f1, f2⟩ := HV5.out.free
    have hup := HU.out
    rw [hup] at x0
    by_cases hmn : pc < C.p
    · obtain ⟨u0, u1, u2⟩ := HR5.out.at
      obtain ⟨e0, e1, e2⟩ := HR5.out.free
      go_wp2
      refine bodyPost_ret (v := .agg #[.bool C.up, .slice A1 C.T.length c1, .int .i64 (C.p - pc)]) (by simp [results, Tryz.results6, go_sem, u0, u1, u2, v0, v1, v2, qn, qn', hup]) rfl ?_
      exact HKY.out { C with p := max 0 (C.p - pc) } (C.p - pc) _ _ (by show (C.p - pc : Int) = max 0 (C.p - pc); omega) (HV5.out.set2 (.int .i64 (C.p - pc))) (HO5.out.touch ((Touch.refl w5 w1.heap.size (w1.heap.size + 1)).set w1.heap.size 2 (.int .i64 (C.p - pc)) (Nat.le_refl _) (Nat.lt_succ_self _)) (Or.inl (Nat.le_refl _))) (HB5.out.setCell (by show w.heap.size ≤ w1.heap.size; omega) _) (by simp; omega) rfl rfl HS.out (touch3 _ _ _)
    · have hmx : C.p ≤ pc := by omega
      obtain ⟨u0, u1, u2⟩ := HR5.out.at
      obtain ⟨e0, e1, e2⟩ := HR5.out.free
      go_wp2
      refine bodyPost_ret (v := .agg #[.bool C.up, .slice A1 C.T.length c1, .int .i64 (0)]) (by simp [results, Tryz.results6, go_sem, u0, u1, u2, v0, v1, v2, qn, qn', hup]) rfl ?_
      exact HKY.out { C with p := max 0 (C.p - pc) } (0) _ _ (by show (0 : Int) = max 0 (C.p - pc); omega) (HV5.out.set2 (.int .i64 (0))) (HO5.out.touch ((Touch.refl w5 w1.heap.size (w1.heap.size + 1)).set w1.heap.size 2 (.int .i64 (0)) (Nat.le_refl _) (Nat.lt_succ_self _)) (Or.inl (Nat.le_refl _))) (HB5.out.setCell (by show w.heap.size ≤ w1.heap.size; omega) _) (by simp; omega) rfl rfl HS.out (touch3 _ _ _)
  · have H0 := vl h
    rw [h1] at HOk
    have HU := vl hu
    have pb := pacZ_bd C.T (depZ Y r)
    obtain ⟨pc, hpc⟩ : ∃ pc, pacZ C.T (depZ Y r) = pc := ⟨_, rfl⟩
    have HPc := vl (fun (w : World) (ht : Trn w A C.T) => by have h := pace_spec C.up A c C.T (depZ Y r) w HM.out ht; rw [hpc] at h; exact h)
    rw [hpc] at pb hs
    obtain ⟨p0, p1⟩ := pb
    obtain ⟨mw, mt, mp0, mp1⟩ := mvB_iff.1 h
    have ml := (wyB_iff.1 mw).l1
    have HDp := vl (fun (w : World) (hr : Pts w B r.n r.X r.Y) (hd : Ints w D r.m r.Z) => depin_spec Y r B D b d w hn hm hr hd)
    have HS := vl hs
    clear h h1 hpc mw mt hs hu
    refine (mvok_spec C A c Y _ HM.out HX1.out.tr).mono ?_
    rintro e w3 ⟨rfl, hb3⟩
    rw [H0.out]
    have q3 := hb3.size
    have HB3 := vl (HB1.out.trans (hb3.mono HB1.out.size))
    have HX3 := vl (HX1.out.below hb3)
    have HR3 := vl (HR1.out.below hb3)
    have HV3 := vl (HV1.out.below hb3)
    have HO3 := vl (HO1.out.below hb3)
    clear hb3 x0 x1 x2 y0 y1 z0 z1 z2
    obtain ⟨x0, x1, x2, y0, y1, z0, z1, z2⟩ := HX3.out.at
    go_wp2_with fail
    refine (HOk.out _ HX3.out.pt HX3.out.dl).mono ?_
    rintro e w4 ⟨rfl, hb4⟩
    have q4 := hb4.size
    have HB4 := vl (HB3.out.trans (hb4.mono HB3.out.size))
    have HX4 := vl (HX3.out.below hb4)
    have HR4 := vl (HR3.out.below hb4)
    have HV4 := vl (HV3.out.below hb4)
    have HO4 := vl (HO3.out.below hb4)
    clear hb4 x0 x1 x2 y0 y1 z0 z1 z2
    obtain ⟨x0, x1, x2, y0, y1, z0, z1, z2⟩ := HX4.out.at
    go_wp2
    go_region_held3 (fun w' => w'.cell? ⟨w.heap.size, 0, none⟩ = some (.bool C.up) ∧ w'.cell? ⟨w.heap.size, 1, none⟩ = some (.slice A C.T.length c) ∧ w'.cell? ⟨w.heap.size, 2, none⟩ = some (.int .i64 C.p) ∧ w'.cell? ⟨w.heap.size + 1, 0, none⟩ = some (.int .i64 Y.l) ∧ w'.cell? ⟨w.heap.size + 1, 1, none⟩ = some (.int .i64 Y.b) ∧ w'.cell? ⟨w.heap.size + 1 + 1, 0, none⟩ = some (.slice B r.n b) ∧ w'.cell? ⟨w.heap.size + 1 + 1, 1, none⟩ = some (.int .i64 r.v) ∧ w'.cell? ⟨w.heap.size + 1 + 1, 2, none⟩ = some (.slice D r.m d) ∧ Below w4.heap.size w4 w')
      (first | exact ⟨x0, x1, x2, y0, y1, z0, z1, z2, Below.refl _ _⟩ | exact ⟨x0, x1, x2, y0, y1, z0, z1, z2, (Below.refl _ _).drew⟩ | assumption)
      (first
        | (go_at_call 23; obtain ⟨_, _, _, _, _, _, _, _, hb7⟩ : _ ∧ _ ∧ _ ∧ _ ∧ _ ∧ _ ∧ _ ∧ _ ∧ Below w4.heap.size w4 _ := by assumption
           refine (HDp.out _ (HX4.out.pt.below hb7) (HX4.out.dl.below hb7)).mono ?_
           rintro en w' ⟨rfl, hb'⟩
           have S1 := (HX4.out.below hb7).cells hb7 hb'
           clear hb')
        | (go_at_call 22; obtain ⟨_, _, _, _, _, _, _, _, hb7⟩ : _ ∧ _ ∧ _ ∧ _ ∧ _ ∧ _ ∧ _ ∧ _ ∧ Below w4.heap.size w4 _ := by assumption
           refine (HPc.out _ (HX4.out.tr.below hb7)).mono ?_
           rintro en w' ⟨rfl, hb'⟩
           have S2 := (HX4.out.below hb7).cells hb7 hb'
           clear hb'))
    obtain ⟨_, _, _, _, _, _, _, _, hb9⟩ : _ ∧ _ ∧ _ ∧ _ ∧ _ ∧ _ ∧ _ ∧ _ ∧ Below w4.heap.size w4 _ := by assumption
    obtain ⟨w5, hw5⟩ : ∃ u, u = w' := ⟨_, rfl⟩
    rw [← hw5] at hb9 ⊢
    clear hw5 S1 S2 x0 x1 x2 y0 y1 z0 z1 z2
    have q5 := hb9.size
    have HB5 := vl (HB4.out.trans (hb9.mono HB4.out.size))
    have HX5 := vl (HX4.out.below hb9)
    have HR5 := vl (HR4.out.below hb9)
    have HV5 := vl (HV4.out.below hb9)
    have HO5 := vl (HO4.out.below hb9)
    clear hb9
    obtain ⟨x0, x1, x2, y0, y1, z0, z1, z2⟩ := HX5.out.at
    obtain ⟨v0, v1, v2⟩ := HV5.out.at
    obtain ⟨f0, f1, f2⟩ := HV5.out.free
    have hup := HU.out
    rw [hup] at x0
    by_cases hmn : Y.l ≤ C.p + pc
    · obtain ⟨u0, u1, u2⟩ := HR5.out.at
      obtain ⟨e0, e1, e2⟩ := HR5.out.free
      go_wp2
      refine bodyPost_ret (v := .agg #[.bool C.up, .slice A1 C.T.length c1, .int .i64 (Y.l)]) (by simp [results, Tryz.results6, go_sem, u0, u1, u2, v0, v1, v2, qn, qn', hup]) rfl ?_
      exact HKY.out { C with p := min Y.l (C.p + pc) } (Y.l) _ _ (by show (Y.l : Int) = min Y.l (C.p + pc); omega) (HV5.out.set2 (.int .i64 (Y.l))) (HO5.out.touch ((Touch.refl w5 w1.heap.size (w1.heap.size + 1)).set w1.heap.size 2 (.int .i64 (Y.l)) (Nat.le_refl _) (Nat.lt_succ_self _)) (Or.inl (Nat.le_refl _))) (HB5.out.setCell (by show w.heap.size ≤ w1.heap.size; omega) _) (by simp; omega) rfl rfl HS.out (touch3 _ _ _)
    · have hmx : C.p + pc < Y.l := by omega
      obtain ⟨u0, u1, u2⟩ := HR5.out.at
      obtain ⟨e0, e1, e2⟩ := HR5.out.free
      go_wp2
      refine bodyPost_ret (v := .agg #[.bool C.up, .slice A1 C.T.length c1, .int .i64 (C.p + pc)]) (by simp [results, Tryz.results6, go_sem, u0, u1, u2, v0, v1, v2, qn, qn', hup]) rfl ?_
      exact HKY.out { C with p := min Y.l (C.p + pc) } (C.p + pc) _ _ (by show (C.p + pc : Int) = min Y.l (C.p + pc); omega) (HV5.out.set2 (.int .i64 (C.p + pc))) (HO5.out.touch ((Touch.refl w5 w1.heap.size (w1.heap.size + 1)).set w1.heap.size 2 (.int .i64 (C.p + pc)) (Nat.le_refl _) (Nat.lt_succ_self _)) (Or.inl (Nat.le_refl _))) (HB5.out.setCell (by show w.heap.size ≤ w1.heap.size; omega) _) (by simp; omega) rfl rfl HS.out (touch3 _ _ _)
end Go.Proofs.YtmabaibpdjmckaaGreat.C1
