/- A mover moves on: of the program. -/
import Derived.Test.YtmabaibpdjmckaaGreatSa4
import Derived.Test.YtmabaibpdjmckaaGreatTrC
import Derived.Defers
namespace Go.Proofs.YtmabaibpdjmckaaGreat.C1
open Go.ChangeShapes Go.WideShapes Go.ChangeAt Go.RowKit
set_option linter.unusedVariables false
set_option linter.unusedSimpArgs false

/-- What a function that gives a mover whose rows are those of its argument leaves. -/
def SameM (w : World) (m : Mv) (A : Option Addr) (c : Nat) (e : Ending) (w' : World) : Prop := e = .returned (.agg #[.bool m.up, .slice A m.T.length c, .int .i64 m.p]) ∧ Below w.heap.size w w'
def movM (m : Mv) (y : Wy) (r : Rc) : Mv := { m with p := movP m y r }
theorem mov_cases (C : Mv) (Y : Wy) (r : Rc) : (mayS C Y r = false ∧ movM C Y r = C) ∨ (mayS C Y r = true ∧ C.up = true ∧ movM C Y r = { C with p := C.p - min (pacC C.T (depZ Y r)) (lefZ C Y) }) ∨ (mayS C Y r = true ∧ C.up = false ∧ movM C Y r = { C with p := C.p + min (pacC C.T (depZ Y r)) (lefZ C Y) }) := by
  have hd := dep_bd Y r
  cases h : mayS C Y r with
  | false => exact Or.inl ⟨rfl, by unfold movM; rw [mov_no h]⟩
  | true =>
    have hp : pacZ C.T (depZ Y r) = pacC C.T (depZ Y r) := pac_yes (mvB_iff.1 (may_yes h).1).t (inB_yes hd.1 hd.2)
    have p0 := (mvB_iff.1 (may_yes h).1).p0
    have p1 := (mvB_iff.1 (may_yes h).1).p1
    have hq := pacC_bd C.T (depZ Y r)
    have hu : C.up = false ∨ C.up = true := by cases C.up <;> simp
    rcases hu with hu | hu
    · refine Or.inr (Or.inr ⟨rfl, hu, ?_⟩)
      have e : movP C Y r = C.p + min (pacC C.T (depZ Y r)) (lefZ C Y) := by
        unfold movP lefZ
        rw [if_pos h, hp, hu]
        simp only [Bool.false_eq_true, if_false]
        omega
      unfold movM
      rw [e]
    · refine Or.inr (Or.inl ⟨rfl, hu, ?_⟩)
      have e : movP C Y r = C.p - min (pacC C.T (depZ Y r)) (lefZ C Y) := by
        unfold movP lefZ
        rw [if_pos h, hp, hu]
        simp only [if_true]
        omega
      unfold movM
      rw [e]
theorem sailed_end (p q : Nat) (up : Bool) (A : Option Addr) (n c : Nat) (z : Int) (z0 z1 z2 : Value) (u : FrameMode) (w : World) (hp : Box w p (.bool up) (.slice A n c) (.int .i64 z) 39) (hq : Box w q z0 z1 z2 39) :
    CallsD Tryz.prog 48 #[.pointer (some ⟨p, 0, none⟩), .pointer (some ⟨q, 0, none⟩)] u w fun e u' w' => u' = u ∧ (e = .returned (.tuple #[]) ∧ w' = ((w.setCell ⟨q, 0, none⟩ (.bool up)).setCell ⟨q, 1, none⟩ (.slice A n c)).setCell ⟨q, 2, none⟩ (.int .i64 z)) := by
  obtain ⟨x0, x1, x2⟩ := hp.at
  obtain ⟨y0, y1, y2⟩ := hq.at
  obtain ⟨f0, f1, f2⟩ := hq.free
  go_enter_d Tryz.func48, Tryz.ntmps48
  go_wp2
  go_end0
  exact ⟨rfl, rfl⟩
/-- The end of a mover that has sailed: its box is given back. -/
theorem sailed_box {w w' : World} {q : Nat} {v0 v1 v2 z0 z1 z2 : Value} {t : TypeId} (hq : Box w q z0 z1 z2 t) (e : w' = ((w.setCell ⟨q, 0, none⟩ v0).setCell ⟨q, 1, none⟩ v1).setCell ⟨q, 2, none⟩ v2) : Box w' q v0 v1 v2 t := by
  subst e
  exact ((hq.set0 v0).set1 v1).set2 v2
set_option maxRecDepth 100000 in
set_option maxHeartbeats 4000000 in
theorem sailed_impl (C : Mv) (A : Option Addr) (c : Nat) (Y : Wy) (r : Rc) (B D : Option Addr) (b d : Nat) (w : World) (hmt : Mod C.T) (ht : Trn w A C.T) (hn : r.n ≤ 1048576) (hm : r.m ≤ 1048576) (hp : Pts w B r.n r.X r.Y) (hd : Ints w D r.m r.Z) :
    Calls Tryz.prog 27 #[.agg #[.bool C.up, .slice A C.T.length c, .int .i64 C.p], .agg #[.int .i64 Y.l, .int .i64 Y.b], .agg #[.slice B r.n b, .int .i64 r.v, .slice D r.m d]] w (SameM w (movM C Y r) A c) := by
  have hmf : ∀ (fn : Fn) (first cap : Array Value) (w : World), (Instr.makeFunc fn first cap).run Tryz.prog w = .ok (.func fn first cap) w := fun _ _ _ _ => rfl
  obtain ⟨hX0, hB0⟩ := mwr_new C A c Y r B D b d w ht hp hd
  have hba := (Below.refl (((w.alloc (.cells #[.bool C.up, .slice A C.T.length c, .int .i64 C.p] 39)).alloc (.cells #[.int .i64 Y.l, .int .i64 Y.b] 42)).alloc (.cells #[.slice B r.n b, .int .i64 r.v, .slice D r.m d] 46)).heap.size (((w.alloc (.cells #[.bool C.up, .slice A C.T.length c, .int .i64 C.p] 39)).alloc (.cells #[.int .i64 Y.l, .int .i64 Y.b] 42)).alloc (.cells #[.slice B r.n b, .int .i64 r.v, .slice D r.m d] 46))).alloc (Nat.le_refl _) (.cells #[.bool false, .slice none 0 0, .int .i64 0] 39)
  have hX := hX0.below hba
  have hB := hB0.trans (hba.mono hB0.size)
  have hR : Box ((((w.alloc (.cells #[.bool C.up, .slice A C.T.length c, .int .i64 C.p] 39)).alloc (.cells #[.int .i64 Y.l, .int .i64 Y.b] 42)).alloc (.cells #[.slice B r.n b, .int .i64 r.v, .slice D r.m d] 46)).alloc (.cells #[.bool false, .slice none 0 0, .int .i64 0] 39)) (w.heap.size + 1 + 1 + 1) (.bool false) (.slice none 0 0) (.int .i64 0) 39 := by
    have h := Box.new (((w.alloc (.cells #[.bool C.up, .slice A C.T.length c, .int .i64 C.p] 39)).alloc (.cells #[.int .i64 Y.l, .int .i64 Y.b] 42)).alloc (.cells #[.slice B r.n b, .int .i64 r.v, .slice D r.m d] 46)) (.bool false) (.slice none 0 0) (.int .i64 0) 39
    simpa using h
  have HB0 := vl hB
  have HX0 := vl hX
  have HR0 := vl hR
  have HM := vl hmt
  obtain ⟨x0, x1, x2, y0, y1, z0, z1, z2⟩ := hX.at
  clear hX hB ht hp hd hmt hX0 hB0 hba hR
  generalize hW : (((w.alloc (.cells #[.bool C.up, .slice A C.T.length c, .int .i64 C.p] 39)).alloc (.cells #[.int .i64 Y.l, .int .i64 Y.b] 42)).alloc (.cells #[.slice B r.n b, .int .i64 r.v, .slice D r.m d] 46)).alloc (.cells #[.bool false, .slice none 0 0, .int .i64 0] 39) = W at *
  rcases mov_cases C Y r with ⟨h, hs⟩ | ⟨h, hu, hs⟩ | ⟨h, hu, hs⟩
  · have HS := vl hs
    have H0 := vl h
    clear h hs
    go_enter_defers Tryz.func27, Tryz.ntmps27
    go_wp2_with fail
    try rw [hW]
    clear hW
    refine (maysail C A c Y r B D b d _ HM.out HX0.out.tr hn hm HX0.out.pt HX0.out.dl).mono ?_
    rintro e w1 ⟨rfl, hb1⟩
    rw [H0.out]
    have HB1 := vl (HB0.out.trans (hb1.mono HB0.out.size))
    have HX1 := vl (HX0.out.below hb1)
    have HR1 := vl (HR0.out.below hb1)
    clear hb1 x0 x1 x2 y0 y1 z0 z1 z2
    go_wp2
    refine leaves_cons (f := 48) (args := #[.pointer (some ⟨w.heap.size, 0, none⟩), .pointer (some ⟨w.heap.size + 1 + 1 + 1, 0, none⟩)]) (by simp) (by simp [go_sem]) ?_
    refine (sailed_end _ _ _ _ _ _ _ _ _ _ .returning _ (HX1.out.bm) (HR1.out)).mono ?_
    rintro e u' w9 ⟨rfl, rfl, hw9⟩
    obtain ⟨r0, r1, r2⟩ := (sailed_box (HR1.out) hw9).at
    rw [HS.out]
    refine ⟨.agg #[.bool C.up, .slice A C.T.length c, .int .i64 (C.p)], by simp [results, Tryz.results27, go_sem, r0, r1, r2], rfl, ?_⟩
    rw [hw9]
    exact (((HB1.out).setCell (by show w.heap.size ≤ w.heap.size + 1 + 1 + 1; omega) _).setCell (by show w.heap.size ≤ w.heap.size + 1 + 1 + 1; omega) _).setCell (by show w.heap.size ≤ w.heap.size + 1 + 1 + 1; omega) _
  · have dp := dep_bd Y r
    have pb := pacC_bd C.T (depZ Y r)
    obtain ⟨pc, hpc⟩ : ∃ pc, pacC C.T (depZ Y r) = pc := ⟨_, rfl⟩
    have HPc := vl (fun (w : World) (ht : Trn w A C.T) => by have h := wpace_impl C.up A c C.T (depZ Y r) w dp.1 dp.2 HM.out ht; rw [hpc] at h; exact h)
    have HV := vl (may_yes h).1
    have hlb := lef_bd (may_yes h).1
    have HDi := vl (fun (w : World) => dist_impl C A c Y w HV.out)
    obtain ⟨lf, hlf⟩ : ∃ lf, lefZ C Y = lf := ⟨_, rfl⟩
    have mp0 := (mvB_iff.1 HV.out).p0
    have mp1 := (mvB_iff.1 HV.out).p1
    have ml := (wyB_iff.1 (mvB_iff.1 HV.out).w).l1
    rw [hpc] at pb hs
    rw [hlf] at hlb HDi hs
    obtain ⟨p0, p1⟩ := pb
    obtain ⟨lb0, lb1⟩ := hlb
    have HS := vl hs
    have H0 := vl h
    have HU := vl hu
    clear h hs dp hpc hlf HV hu
    go_enter_defers Tryz.func27, Tryz.ntmps27
    go_wp2_with fail
    try rw [hW]
    clear hW
    refine (maysail C A c Y r B D b d _ HM.out HX0.out.tr hn hm HX0.out.pt HX0.out.dl).mono ?_
    rintro e w1 ⟨rfl, hb1⟩
    rw [H0.out]
    have HB1 := vl (HB0.out.trans (hb1.mono HB0.out.size))
    have HX1 := vl (HX0.out.below hb1)
    have HR1 := vl (HR0.out.below hb1)
    clear hb1 x0 x1 x2 y0 y1 z0 z1 z2
    go_wp2
    obtain ⟨x0, x1, x2, y0, y1, z0, z1, z2⟩ := HX1.out.at
    by_cases hmn : pc ≤ lf
    · go_region_held3 (fun w' => w'.cell? ⟨w.heap.size, 0, none⟩ = some (.bool C.up) ∧ w'.cell? ⟨w.heap.size, 1, none⟩ = some (.slice A C.T.length c) ∧ w'.cell? ⟨w.heap.size, 2, none⟩ = some (.int .i64 C.p) ∧ w'.cell? ⟨w.heap.size + 1, 0, none⟩ = some (.int .i64 Y.l) ∧ w'.cell? ⟨w.heap.size + 1, 1, none⟩ = some (.int .i64 Y.b) ∧ w'.cell? ⟨w.heap.size + 1 + 1, 0, none⟩ = some (.slice B r.n b) ∧ w'.cell? ⟨w.heap.size + 1 + 1, 1, none⟩ = some (.int .i64 r.v) ∧ w'.cell? ⟨w.heap.size + 1 + 1, 2, none⟩ = some (.slice D r.m d) ∧ Below w1.heap.size w1 w')
        (first | exact ⟨x0, x1, x2, y0, y1, z0, z1, z2, Below.refl _ _⟩ | exact ⟨x0, x1, x2, y0, y1, z0, z1, z2, (Below.refl _ _).drew⟩ | assumption)
        (first
          | (go_at_call 50; obtain ⟨_, _, _, _, _, _, _, _, hb7⟩ : _ ∧ _ ∧ _ ∧ _ ∧ _ ∧ _ ∧ _ ∧ _ ∧ Below w1.heap.size w1 _ := by assumption
             refine (pacein Y r B D b d _ hn hm (HX1.out.pt.below hb7) (HX1.out.dl.below hb7)).mono ?_
             rintro en w' ⟨rfl, hb'⟩
             have S1 := (HX1.out.below hb7).cells hb7 hb'
             clear hb')
          | (go_at_call 66; obtain ⟨_, _, _, _, _, _, _, _, hb7⟩ : _ ∧ _ ∧ _ ∧ _ ∧ _ ∧ _ ∧ _ ∧ _ ∧ Below w1.heap.size w1 _ := by assumption
             refine (HPc.out _ (HX1.out.tr.below hb7)).mono ?_
             rintro en w' ⟨rfl, hb'⟩
             have S2 := (HX1.out.below hb7).cells hb7 hb'
             clear hb')
          | (go_at_call 51; obtain ⟨_, _, _, _, _, _, _, _, hb7⟩ : _ ∧ _ ∧ _ ∧ _ ∧ _ ∧ _ ∧ _ ∧ _ ∧ Below w1.heap.size w1 _ := by assumption
             refine (HDi.out _).mono ?_
             rintro en w' ⟨rfl, hb'⟩
             have S3 := (HX1.out.below hb7).cells hb7 hb'
             clear hb'))
      all_goals
        obtain ⟨_, _, _, _, _, _, _, _, hb9⟩ : _ ∧ _ ∧ _ ∧ _ ∧ _ ∧ _ ∧ _ ∧ _ ∧ Below w1.heap.size w1 _ := by assumption
        clear x0 x1 x2 y0 y1 z0 z1 z2
        have HB9 := vl (HB1.out.trans (hb9.mono HB1.out.size))
        have HX9 := vl (HX1.out.below hb9)
        have HR9 := vl (HR1.out.below hb9)
        clear hb9 S1 S2 S3
        obtain ⟨x0, x1, x2, y0, y1, z0, z1, z2⟩ := HX9.out.at
        have f2 := (show Box _ w.heap.size (.bool C.up) (.slice A C.T.length c) (.int .i64 C.p) 39 from HX9.out.bm).free.2.2
        have hup := HU.out
        go_wp2
        all_goals
          refine leaves_cons (f := 48) (args := #[.pointer (some ⟨w.heap.size, 0, none⟩), .pointer (some ⟨w.heap.size + 1 + 1 + 1, 0, none⟩)]) (by simp) (by simp [go_sem]) ?_
          refine (sailed_end _ _ _ _ _ _ _ _ _ _ .returning _ ((show Box _ w.heap.size (.bool C.up) (.slice A C.T.length c) (.int .i64 C.p) 39 from HX9.out.bm).set2 _) (HR9.out.far _ (by omega))).mono ?_
          rintro e u' w9 ⟨rfl, rfl, hw9⟩
          obtain ⟨r0, r1, r2⟩ := (sailed_box (HR9.out.far _ (by omega)) hw9).at
          rw [HS.out]
          clear x0 x1 x2 y0 y1 z0 z1 z2 f2
          refine ⟨.agg #[.bool C.up, .slice A C.T.length c, .int .i64 (C.p + -pc)], by simp [results, Tryz.results27, go_sem, r0, r1, r2], (show Ending.returned (Value.agg #[.bool C.up, .slice A C.T.length c, .int .i64 (C.p + -pc)]) = Ending.returned (Value.agg #[.bool C.up, .slice A C.T.length c, .int .i64 (C.p - min pc lf)]) from congrArg (fun z : Int => Ending.returned (Value.agg #[.bool C.up, .slice A C.T.length c, .int .i64 z])) (show (C.p + -pc : Int) = C.p - min pc lf by omega)), ?_⟩
          rw [hw9]
          exact ((((HB9.out.setCell (by show w.heap.size ≤ w.heap.size; omega) _)).setCell (by show w.heap.size ≤ w.heap.size + 1 + 1 + 1; omega) _).setCell (by show w.heap.size ≤ w.heap.size + 1 + 1 + 1; omega) _).setCell (by show w.heap.size ≤ w.heap.size + 1 + 1 + 1; omega) _
    · have hmx : lf < pc := by omega
      go_region_held3 (fun w' => w'.cell? ⟨w.heap.size, 0, none⟩ = some (.bool C.up) ∧ w'.cell? ⟨w.heap.size, 1, none⟩ = some (.slice A C.T.length c) ∧ w'.cell? ⟨w.heap.size, 2, none⟩ = some (.int .i64 C.p) ∧ w'.cell? ⟨w.heap.size + 1, 0, none⟩ = some (.int .i64 Y.l) ∧ w'.cell? ⟨w.heap.size + 1, 1, none⟩ = some (.int .i64 Y.b) ∧ w'.cell? ⟨w.heap.size + 1 + 1, 0, none⟩ = some (.slice B r.n b) ∧ w'.cell? ⟨w.heap.size + 1 + 1, 1, none⟩ = some (.int .i64 r.v) ∧ w'.cell? ⟨w.heap.size + 1 + 1, 2, none⟩ = some (.slice D r.m d) ∧ Below w1.heap.size w1 w')
        (first | exact ⟨x0, x1, x2, y0, y1, z0, z1, z2, Below.refl _ _⟩ | exact ⟨x0, x1, x2, y0, y1, z0, z1, z2, (Below.refl _ _).drew⟩ | assumption)
        (first
          | (go_at_call 50; obtain ⟨_, _, _, _, _, _, _, _, hb7⟩ : _ ∧ _ ∧ _ ∧ _ ∧ _ ∧ _ ∧ _ ∧ _ ∧ Below w1.heap.size w1 _ := by assumption
             refine (pacein Y r B D b d _ hn hm (HX1.out.pt.below hb7) (HX1.out.dl.below hb7)).mono ?_
             rintro en w' ⟨rfl, hb'⟩
             have S1 := (HX1.out.below hb7).cells hb7 hb'
             clear hb')
          | (go_at_call 66; obtain ⟨_, _, _, _, _, _, _, _, hb7⟩ : _ ∧ _ ∧ _ ∧ _ ∧ _ ∧ _ ∧ _ ∧ _ ∧ Below w1.heap.size w1 _ := by assumption
             refine (HPc.out _ (HX1.out.tr.below hb7)).mono ?_
             rintro en w' ⟨rfl, hb'⟩
             have S2 := (HX1.out.below hb7).cells hb7 hb'
             clear hb')
          | (go_at_call 51; obtain ⟨_, _, _, _, _, _, _, _, hb7⟩ : _ ∧ _ ∧ _ ∧ _ ∧ _ ∧ _ ∧ _ ∧ _ ∧ Below w1.heap.size w1 _ := by assumption
             refine (HDi.out _).mono ?_
             rintro en w' ⟨rfl, hb'⟩
             have S3 := (HX1.out.below hb7).cells hb7 hb'
             clear hb'))
      all_goals
        obtain ⟨_, _, _, _, _, _, _, _, hb9⟩ : _ ∧ _ ∧ _ ∧ _ ∧ _ ∧ _ ∧ _ ∧ _ ∧ Below w1.heap.size w1 _ := by assumption
        clear x0 x1 x2 y0 y1 z0 z1 z2
        have HB9 := vl (HB1.out.trans (hb9.mono HB1.out.size))
        have HX9 := vl (HX1.out.below hb9)
        have HR9 := vl (HR1.out.below hb9)
        clear hb9 S1 S2 S3
        obtain ⟨x0, x1, x2, y0, y1, z0, z1, z2⟩ := HX9.out.at
        have f2 := (show Box _ w.heap.size (.bool C.up) (.slice A C.T.length c) (.int .i64 C.p) 39 from HX9.out.bm).free.2.2
        have hup := HU.out
        go_wp2
        all_goals
          refine leaves_cons (f := 48) (args := #[.pointer (some ⟨w.heap.size, 0, none⟩), .pointer (some ⟨w.heap.size + 1 + 1 + 1, 0, none⟩)]) (by simp) (by simp [go_sem]) ?_
          refine (sailed_end _ _ _ _ _ _ _ _ _ _ .returning _ ((show Box _ w.heap.size (.bool C.up) (.slice A C.T.length c) (.int .i64 C.p) 39 from HX9.out.bm).set2 _) (HR9.out.far _ (by omega))).mono ?_
          rintro e u' w9 ⟨rfl, rfl, hw9⟩
          obtain ⟨r0, r1, r2⟩ := (sailed_box (HR9.out.far _ (by omega)) hw9).at
          rw [HS.out]
          clear x0 x1 x2 y0 y1 z0 z1 z2 f2
          refine ⟨.agg #[.bool C.up, .slice A C.T.length c, .int .i64 (C.p + -lf)], by simp [results, Tryz.results27, go_sem, r0, r1, r2], (show Ending.returned (Value.agg #[.bool C.up, .slice A C.T.length c, .int .i64 (C.p + -lf)]) = Ending.returned (Value.agg #[.bool C.up, .slice A C.T.length c, .int .i64 (C.p - min pc lf)]) from congrArg (fun z : Int => Ending.returned (Value.agg #[.bool C.up, .slice A C.T.length c, .int .i64 z])) (show (C.p + -lf : Int) = C.p - min pc lf by omega)), ?_⟩
          rw [hw9]
          exact ((((HB9.out.setCell (by show w.heap.size ≤ w.heap.size; omega) _)).setCell (by show w.heap.size ≤ w.heap.size + 1 + 1 + 1; omega) _).setCell (by show w.heap.size ≤ w.heap.size + 1 + 1 + 1; omega) _).setCell (by show w.heap.size ≤ w.heap.size + 1 + 1 + 1; omega) _
  · have dp := dep_bd Y r
    have pb := pacC_bd C.T (depZ Y r)
    obtain ⟨pc, hpc⟩ : ∃ pc, pacC C.T (depZ Y r) = pc := ⟨_, rfl⟩
    have HPc := vl (fun (w : World) (ht : Trn w A C.T) => by have h := wpace_impl C.up A c C.T (depZ Y r) w dp.1 dp.2 HM.out ht; rw [hpc] at h; exact h)
    have HV := vl (may_yes h).1
    have hlb := lef_bd (may_yes h).1
    have HDi := vl (fun (w : World) => dist_impl C A c Y w HV.out)
    obtain ⟨lf, hlf⟩ : ∃ lf, lefZ C Y = lf := ⟨_, rfl⟩
    have mp0 := (mvB_iff.1 HV.out).p0
    have mp1 := (mvB_iff.1 HV.out).p1
    have ml := (wyB_iff.1 (mvB_iff.1 HV.out).w).l1
    rw [hpc] at pb hs
    rw [hlf] at hlb HDi hs
    obtain ⟨p0, p1⟩ := pb
    obtain ⟨lb0, lb1⟩ := hlb
    have HS := vl hs
    have H0 := vl h
    have HU := vl hu
    clear h hs dp hpc hlf HV hu
    go_enter_defers Tryz.func27, Tryz.ntmps27
    go_wp2_with fail
    try rw [hW]
    clear hW
    refine (maysail C A c Y r B D b d _ HM.out HX0.out.tr hn hm HX0.out.pt HX0.out.dl).mono ?_
    rintro e w1 ⟨rfl, hb1⟩
    rw [H0.out]
    have HB1 := vl (HB0.out.trans (hb1.mono HB0.out.size))
    have HX1 := vl (HX0.out.below hb1)
    have HR1 := vl (HR0.out.below hb1)
    clear hb1 x0 x1 x2 y0 y1 z0 z1 z2
    go_wp2
    obtain ⟨x0, x1, x2, y0, y1, z0, z1, z2⟩ := HX1.out.at
    by_cases hmn : pc ≤ lf
    · go_region_held3 (fun w' => w'.cell? ⟨w.heap.size, 0, none⟩ = some (.bool C.up) ∧ w'.cell? ⟨w.heap.size, 1, none⟩ = some (.slice A C.T.length c) ∧ w'.cell? ⟨w.heap.size, 2, none⟩ = some (.int .i64 C.p) ∧ w'.cell? ⟨w.heap.size + 1, 0, none⟩ = some (.int .i64 Y.l) ∧ w'.cell? ⟨w.heap.size + 1, 1, none⟩ = some (.int .i64 Y.b) ∧ w'.cell? ⟨w.heap.size + 1 + 1, 0, none⟩ = some (.slice B r.n b) ∧ w'.cell? ⟨w.heap.size + 1 + 1, 1, none⟩ = some (.int .i64 r.v) ∧ w'.cell? ⟨w.heap.size + 1 + 1, 2, none⟩ = some (.slice D r.m d) ∧ Below w1.heap.size w1 w')
        (first | exact ⟨x0, x1, x2, y0, y1, z0, z1, z2, Below.refl _ _⟩ | exact ⟨x0, x1, x2, y0, y1, z0, z1, z2, (Below.refl _ _).drew⟩ | assumption)
        (first
          | (go_at_call 50; obtain ⟨_, _, _, _, _, _, _, _, hb7⟩ : _ ∧ _ ∧ _ ∧ _ ∧ _ ∧ _ ∧ _ ∧ _ ∧ Below w1.heap.size w1 _ := by assumption
             refine (pacein Y r B D b d _ hn hm (HX1.out.pt.below hb7) (HX1.out.dl.below hb7)).mono ?_
             rintro en w' ⟨rfl, hb'⟩
             have S1 := (HX1.out.below hb7).cells hb7 hb'
             clear hb')
          | (go_at_call 66; obtain ⟨_, _, _, _, _, _, _, _, hb7⟩ : _ ∧ _ ∧ _ ∧ _ ∧ _ ∧ _ ∧ _ ∧ _ ∧ Below w1.heap.size w1 _ := by assumption
             refine (HPc.out _ (HX1.out.tr.below hb7)).mono ?_
             rintro en w' ⟨rfl, hb'⟩
             have S2 := (HX1.out.below hb7).cells hb7 hb'
             clear hb')
          | (go_at_call 51; obtain ⟨_, _, _, _, _, _, _, _, hb7⟩ : _ ∧ _ ∧ _ ∧ _ ∧ _ ∧ _ ∧ _ ∧ _ ∧ Below w1.heap.size w1 _ := by assumption
             refine (HDi.out _).mono ?_
             rintro en w' ⟨rfl, hb'⟩
             have S3 := (HX1.out.below hb7).cells hb7 hb'
             clear hb'))
      all_goals
        obtain ⟨_, _, _, _, _, _, _, _, hb9⟩ : _ ∧ _ ∧ _ ∧ _ ∧ _ ∧ _ ∧ _ ∧ _ ∧ Below w1.heap.size w1 _ := by assumption
        clear x0 x1 x2 y0 y1 z0 z1 z2
        have HB9 := vl (HB1.out.trans (hb9.mono HB1.out.size))
        have HX9 := vl (HX1.out.below hb9)
        have HR9 := vl (HR1.out.below hb9)
        clear hb9 S1 S2 S3
        obtain ⟨x0, x1, x2, y0, y1, z0, z1, z2⟩ := HX9.out.at
        have f2 := (show Box _ w.heap.size (.bool C.up) (.slice A C.T.length c) (.int .i64 C.p) 39 from HX9.out.bm).free.2.2
        have hup := HU.out
        go_wp2
        all_goals
          refine leaves_cons (f := 48) (args := #[.pointer (some ⟨w.heap.size, 0, none⟩), .pointer (some ⟨w.heap.size + 1 + 1 + 1, 0, none⟩)]) (by simp) (by simp [go_sem]) ?_
          refine (sailed_end _ _ _ _ _ _ _ _ _ _ .returning _ ((show Box _ w.heap.size (.bool C.up) (.slice A C.T.length c) (.int .i64 C.p) 39 from HX9.out.bm).set2 _) (HR9.out.far _ (by omega))).mono ?_
          rintro e u' w9 ⟨rfl, rfl, hw9⟩
          obtain ⟨r0, r1, r2⟩ := (sailed_box (HR9.out.far _ (by omega)) hw9).at
          rw [HS.out]
          clear x0 x1 x2 y0 y1 z0 z1 z2 f2
          refine ⟨.agg #[.bool C.up, .slice A C.T.length c, .int .i64 (C.p + pc)], by simp [results, Tryz.results27, go_sem, r0, r1, r2], (show Ending.returned (Value.agg #[.bool C.up, .slice A C.T.length c, .int .i64 (C.p + pc)]) = Ending.returned (Value.agg #[.bool C.up, .slice A C.T.length c, .int .i64 (C.p + min pc lf)]) from congrArg (fun z : Int => Ending.returned (Value.agg #[.bool C.up, .slice A C.T.length c, .int .i64 z])) (show (C.p + pc : Int) = C.p + min pc lf by omega)), ?_⟩
          rw [hw9]
          exact ((((HB9.out.setCell (by show w.heap.size ≤ w.heap.size; omega) _)).setCell (by show w.heap.size ≤ w.heap.size + 1 + 1 + 1; omega) _).setCell (by show w.heap.size ≤ w.heap.size + 1 + 1 + 1; omega) _).setCell (by show w.heap.size ≤ w.heap.size + 1 + 1 + 1; omega) _
    · have hmx : lf < pc := by omega
      go_region_held3 (fun w' => w'.cell? ⟨w.heap.size, 0, none⟩ = some (.bool C.up) ∧ w'.cell? ⟨w.heap.size, 1, none⟩ = some (.slice A C.T.length c) ∧ w'.cell? ⟨w.heap.size, 2, none⟩ = some (.int .i64 C.p) ∧ w'.cell? ⟨w.heap.size + 1, 0, none⟩ = some (.int .i64 Y.l) ∧ w'.cell? ⟨w.heap.size + 1, 1, none⟩ = some (.int .i64 Y.b) ∧ w'.cell? ⟨w.heap.size + 1 + 1, 0, none⟩ = some (.slice B r.n b) ∧ w'.cell? ⟨w.heap.size + 1 + 1, 1, none⟩ = some (.int .i64 r.v) ∧ w'.cell? ⟨w.heap.size + 1 + 1, 2, none⟩ = some (.slice D r.m d) ∧ Below w1.heap.size w1 w')
        (first | exact ⟨x0, x1, x2, y0, y1, z0, z1, z2, Below.refl _ _⟩ | exact ⟨x0, x1, x2, y0, y1, z0, z1, z2, (Below.refl _ _).drew⟩ | assumption)
        (first
          | (go_at_call 50; obtain ⟨_, _, _, _, _, _, _, _, hb7⟩ : _ ∧ _ ∧ _ ∧ _ ∧ _ ∧ _ ∧ _ ∧ _ ∧ Below w1.heap.size w1 _ := by assumption
             refine (pacein Y r B D b d _ hn hm (HX1.out.pt.below hb7) (HX1.out.dl.below hb7)).mono ?_
             rintro en w' ⟨rfl, hb'⟩
             have S1 := (HX1.out.below hb7).cells hb7 hb'
             clear hb')
          | (go_at_call 66; obtain ⟨_, _, _, _, _, _, _, _, hb7⟩ : _ ∧ _ ∧ _ ∧ _ ∧ _ ∧ _ ∧ _ ∧ _ ∧ Below w1.heap.size w1 _ := by assumption
             refine (HPc.out _ (HX1.out.tr.below hb7)).mono ?_
             rintro en w' ⟨rfl, hb'⟩
             have S2 := (HX1.out.below hb7).cells hb7 hb'
             clear hb')
          | (go_at_call 51; obtain ⟨_, _, _, _, _, _, _, _, hb7⟩ : _ ∧ _ ∧ _ ∧ _ ∧ _ ∧ _ ∧ _ ∧ _ ∧ Below w1.heap.size w1 _ := by assumption
             refine (HDi.out _).mono ?_
             rintro en w' ⟨rfl, hb'⟩
             have S3 := (HX1.out.below hb7).cells hb7 hb'
             clear hb'))
      all_goals
        obtain ⟨_, _, _, _, _, _, _, _, hb9⟩ : _ ∧ _ ∧ _ ∧ _ ∧ _ ∧ _ ∧ _ ∧ _ ∧ Below w1.heap.size w1 _ := by assumption
        clear x0 x1 x2 y0 y1 z0 z1 z2
        have HB9 := vl (HB1.out.trans (hb9.mono HB1.out.size))
        have HX9 := vl (HX1.out.below hb9)
        have HR9 := vl (HR1.out.below hb9)
        clear hb9 S1 S2 S3
        obtain ⟨x0, x1, x2, y0, y1, z0, z1, z2⟩ := HX9.out.at
        have f2 := (show Box _ w.heap.size (.bool C.up) (.slice A C.T.length c) (.int .i64 C.p) 39 from HX9.out.bm).free.2.2
        have hup := HU.out
        go_wp2
        all_goals
          refine leaves_cons (f := 48) (args := #[.pointer (some ⟨w.heap.size, 0, none⟩), .pointer (some ⟨w.heap.size + 1 + 1 + 1, 0, none⟩)]) (by simp) (by simp [go_sem]) ?_
          refine (sailed_end _ _ _ _ _ _ _ _ _ _ .returning _ ((show Box _ w.heap.size (.bool C.up) (.slice A C.T.length c) (.int .i64 C.p) 39 from HX9.out.bm).set2 _) (HR9.out.far _ (by omega))).mono ?_
          rintro e u' w9 ⟨rfl, rfl, hw9⟩
          obtain ⟨r0, r1, r2⟩ := (sailed_box (HR9.out.far _ (by omega)) hw9).at
          rw [HS.out]
          clear x0 x1 x2 y0 y1 z0 z1 z2 f2
          refine ⟨.agg #[.bool C.up, .slice A C.T.length c, .int .i64 (C.p + lf)], by simp [results, Tryz.results27, go_sem, r0, r1, r2], (show Ending.returned (Value.agg #[.bool C.up, .slice A C.T.length c, .int .i64 (C.p + lf)]) = Ending.returned (Value.agg #[.bool C.up, .slice A C.T.length c, .int .i64 (C.p + min pc lf)]) from congrArg (fun z : Int => Ending.returned (Value.agg #[.bool C.up, .slice A C.T.length c, .int .i64 z])) (show (C.p + lf : Int) = C.p + min pc lf by omega)), ?_⟩
          rw [hw9]
          exact ((((HB9.out.setCell (by show w.heap.size ≤ w.heap.size; omega) _)).setCell (by show w.heap.size ≤ w.heap.size + 1 + 1 + 1; omega) _).setCell (by show w.heap.size ≤ w.heap.size + 1 + 1 + 1; omega) _).setCell (by show w.heap.size ≤ w.heap.size + 1 + 1 + 1; omega) _
end Go.Proofs.YtmabaibpdjmckaaGreat.C1
