/- Copies of reaches, of the model and of the program. -/
import Derived.Test.YtlaffdfnmpkocaaRchL
import Derived.Deep.RegionHeld3
import Derived.OwnWalk
namespace Go.Proofs.Ytlaffdfnmpkocaa.C1
open Go.ChangeShapes Go.WideShapes Go.ChangeAt Go.RowKit
set_option linter.unusedVariables false

theorem below_app {a b : World} {o : Obj} {g : Nat} (h : (a.alloc o).grownBy b (some g)) (hg : a.heap.size ≤ g) : Below a.heap.size a b :=
  ((Below.refl a.heap.size a).alloc (Nat.le_refl _) o).grown h (by simp) (fun k hk => by injection hk with hk; omega)
set_option maxRecDepth 100000 in
set_option maxHeartbeats 1000000 in
theorem copy_spec (r : Rc) (A D : Option Addr) (c d : Nat) (w : World) (hn : r.n ≤ 1048576) (hm : r.m ≤ 1048576) (hp : Pts w A r.n r.X r.Y) (hd : Ints w D r.m r.Z) :
    Calls Try.prog 14 #[.agg #[.slice A r.n c, .int .i64 r.v, .slice D r.m d]] w (GivesR w r) := by
  obtain ⟨i0, hi, hz0, hz1, hz2⟩ := info_parts infoP
  obtain ⟨j0, hj, hy0, hy1, hy2⟩ := info_parts infoI
  have HP := Lib.hid hp
  have HD := Lib.hid hd
  clear hp hd
  have HB0 := Lib.hid (((Below.refl w.heap.size w).alloc (Nat.le_refl _) (.cells #[.slice A r.n c, .int .i64 r.v, .slice D r.m d] 29)).alloc (by simp) (.cells #[.slice none 0 0, .int .i64 0, .slice none 0 0] 29))
  have hx0 := (Box.new w (.slice A r.n c) (.int .i64 r.v) (.slice D r.m d) 29).alloc (.cells #[.slice none 0 0, .int .i64 0, .slice none 0 0] 29)
  have hr0 := Box.new (w.alloc (.cells #[.slice A r.n c, .int .i64 r.v, .slice D r.m d] 29)) (.slice none 0 0) (.int .i64 0) (.slice none 0 0) 29
  simp at hr0
  have HX0 := Lib.hid hx0
  have HR0 := Lib.hid hr0
  have ho := (World.ownsRow_made (size := 2) (e := 52) ((w.alloc (.cells #[.slice A r.n c, .int .i64 r.v, .slice D r.m d] 29)).alloc (.cells #[.slice none 0 0, .int .i64 0, .slice none 0 0] 29)) #[] 0 (Nat.le_refl _) (by decide) rfl)
  simp at ho
  have HO := Lib.hid ho
  clear ho hx0 hr0
  go_enter Try.func14, Try.ntmps14
  go_wp2_with (at_builtin; refine wpList_app rfl _ _ 27 rfl _ 52 i0 _ 2 16 Try.underlying27 hi hz0 hz1 hz2 rfl (by decide) _ _ _ rfl HO.out A r.n c (ptl r.n r.X r.Y) rfl (ptl_len _ _ _) (src_p (((HP.out.below HB0.out).alloc _))) ptl_one ?c3 ?c4 (by simp) ?_)
  case c3 => unfold maxLen; omega
  case c4 => omega
  intro v1 w1 hown1 hgr1
  have hb1 := below_app hgr1 (by simp)
  obtain ⟨A1, c1, g1, rfl, h1, h2, h3, h4⟩ := rowP_of_own hown1 (by have := hb1.size; simpa using this)
  have q0 : w.heap.size + 1 < w1.heap.size := by have := hb1.size; simp at this; omega
  have q1 : w.heap.size < w1.heap.size := by omega
  have H1 := Lib.hid (And.intro h1 (And.intro h2 (And.intro h3 h4)))
  have HB1 := Lib.hid (HB0.out.trans (hb1.mono (by simp; omega)))
  have HX1 := Lib.hid (HX0.out.below hb1)
  have HR1 := Lib.hid (HR0.out.below hb1)
  have ho := (World.ownsRow_made (size := 1) (e := 3) (w1.setCell ⟨w.heap.size, 0, none⟩ (.slice A1 r.n c1)) #[] 0 (Nat.le_refl _) (by decide) rfl)
  simp at ho
  have HO1 := Lib.hid ho
  have HB1s := Lib.hid (HB1.out.setCell (p := ⟨w.heap.size, 0, none⟩) (Nat.le_refl _) (.slice A1 r.n c1))
  obtain ⟨x0, x1, x2⟩ := HX1.out.at
  obtain ⟨z0, z1, z2⟩ := HX1.out.free
  clear ho hown1 hgr1 hb1 h1 h2 h3 h4 hi hz0 hz1 hz2
  go_wp2_with (at_builtin; refine wpList_app rfl _ _ 23 rfl _ 3 j0 _ 1 8 Try.underlying23 hj hy0 hy1 hy2 rfl (by decide) _ _ _ rfl HO1.out D r.m d (itl r.m r.Z) rfl (by rw [itl_len]; omega) (src_i ((HD.out.below HB1s.out).alloc _)) itl_one ?c5 ?c6 (by simp) ?_)
  case c5 => unfold maxLen; omega
  case c6 => omega
  intro v2 w2 hown2 hgr2
  have hb2 := below_app hgr2 (by simp)
  obtain ⟨D1, d1, g2, rfl, h0, h1, h2, h3, h4⟩ := rowI_of_own hown2 (by have := hb2.size; simpa using this)
  have q2 : w1.heap.size ≤ w2.heap.size := by have := hb2.size; simpa using this
  have q3 : w.heap.size + 1 < w2.heap.size := by omega
  have q4 : w.heap.size < w2.heap.size := by omega
  have H2 := Lib.hid (And.intro h1 (And.intro h2 (And.intro h3 h4)))
  have HB2 := Lib.hid (HB1s.out.trans (hb2.mono (by simp; omega)))
  have HX2 := Lib.hid ((HX1.out.set0 (.slice A1 r.n c1)).below hb2)
  have HR2 := Lib.hid ((HR1.out.far (g := w.heap.size) (j := 0) (.slice A1 r.n c1) (by omega)).below hb2)
  have HT := Lib.hid (((Touch.refl w1 w.heap.size (w.heap.size + 1 + 1)).set w.heap.size 0 (.slice A1 r.n c1) (Nat.le_refl _) (by omega)).trans (Touch.of_below hb2))
  clear hown2 hgr2 hb2 h1 h2 h3 h4 hj hy0 hy1 hy2 x0 x1 x2 z0 z1 z2
  obtain ⟨x0, x1, x2⟩ := HX2.out.at
  obtain ⟨z0, z1, z2⟩ := HX2.out.free
  obtain ⟨y0, y1, y2⟩ := HR2.out.at
  obtain ⟨s0, s1, s2⟩ := HR2.out.free
  go_wp2
  refine bodyPost_ret (v := .agg #[.slice A1 r.n c1, .int .i64 r.v, .slice D1 r.m d1]) (by simp [results, Try.results14, go_sem, y0, y1, y2]) rfl ?_
  clear x0 x1 x2 z0 z1 z2 y0 y1 y2 s0 s1 s2
  have HU := Lib.hid (((((Touch.refl w2 w.heap.size (w.heap.size + 1 + 1)).set w.heap.size 2 (.slice D1 r.m d1) (by omega) (by omega)).set (w.heap.size + 1) 0 (.slice A1 r.n c1) (by omega) (by omega)).set (w.heap.size + 1) 1 (.int .i64 r.v) (by omega) (by omega)).set (w.heap.size + 1) 2 (.slice D1 r.m d1) (by omega) (by omega))
  have hs := HU.out.size
  obtain ⟨p1, p2, p3, p4⟩ := H1.out
  obtain ⟨s1, s2, s3, s4⟩ := H2.out
  refine ⟨⟨_, _, _, _, g1, g2, rfl, h0, ?_⟩, HU.out.below HB2.out (by omega)⟩
  exact ⟨HU.out.row (HT.out.row p1 (fun _ => by omega)) (fun _ => by omega), HU.out.free (HT.out.free p2 (fun _ => by have := p4 (by omega); omega) (fun _ => by omega)) (fun _ => by have := p4 (by omega); omega) (fun _ => by omega),
    HU.out.rowI s1 (fun _ => by omega), HU.out.free s2 s4 (fun _ => by omega), fun h => ⟨by omega, by have := p4 h; omega⟩, fun h => ⟨by omega, by have := s4 h; omega⟩, fun h _ => by have := p4 h; omega⟩
theorem keep3 {w : World} {b g i : Nat} {v u0 u1 u2 : Value} (hne : b ≠ g) (h : w.cell? ⟨b, i, none⟩ = some v) :
    (((w.setCell ⟨g, 0, none⟩ u0).setCell ⟨g, 1, none⟩ u1).setCell ⟨g, 2, none⟩ u2).cell? ⟨b, i, none⟩ = some v := by
  have k (j : Nat) : (⟨g, j, none⟩ : Addr) ≠ ⟨b, i, none⟩ := fun e => hne (by injection e with e _; exact e.symm)
  rw [World.cell?_setCell_other _ _ _ _ (by first | exact k 2 | exact (k 2).symm), World.cell?_setCell_other _ _ _ _ (by first | exact k 1 | exact (k 1).symm), World.cell?_setCell_other _ _ _ _ (by first | exact k 0 | exact (k 0).symm)]
  exact h
/-- A row of points, of integers, that a call made behind world w. -/
def NewP (w w' : World) (A : Option Addr) (n g : Nat) (X Y : Nat → Int) : Prop := RowP w' A n g X Y ∧ Free w' (n * 2) g ∧ w.heap.size ≤ g ∧ (0 < n → g < w'.heap.size)
def NewI (w w' : World) (A : Option Addr) (n g : Nat) (Z : Nat → Int) : Prop := RowI w' A n g Z ∧ Free w' n g ∧ w.heap.size ≤ g ∧ (0 < n → g < w'.heap.size)
theorem own_join {a b c : World} {r : Rc} {A D : Option Addr} {g1 g2 B : Nat} (h : NewP a b A r.n g1 r.X r.Y) (k : NewI b c D r.m g2 r.Z) (hb : Below b.heap.size b c) (hB : B ≤ a.heap.size) (hB' : B ≤ b.heap.size) : Owned c B c.heap.size A D r g1 g2 := by
  obtain ⟨h1, h2, h3, h4⟩ := h
  obtain ⟨k1, k2, k3, k4⟩ := k
  have hs := hb.size
  exact ⟨h1.below hb, h2.below (fun hn => h1.lt (by omega)) hb, k1, k2, fun hn => ⟨by omega, by have := h4 hn; omega⟩, fun hm => ⟨by omega, k4 hm⟩, fun hn hm => by have := h4 hn; omega⟩
theorem clone_hb {W w : World} {HB : Hid (Below W.heap.size W w)} (A : Option Addr) (n c : Nat) (hn : n ≤ 1048576) (X Y : Nat → Int) (hp : Pts W A n X Y) :
    Calls Try.prog 40 #[.slice A n c] w fun e w' => (∃ A' c' g, e = .returned (.slice A' n c') ∧ Hid (NewP w w' A' n g X Y)) ∧ Hid (Below W.heap.size W w') ∧ Hid (Below w.heap.size w w') :=
  (clone_pts A n c w hn X Y (hp.below HB.out)).mono fun e w' ⟨⟨A', c', g, h⟩, hb⟩ => ⟨⟨A', c', g, h.1, Lib.hid h.2⟩, Lib.hid (HB.out.trans (hb.mono HB.out.size)), Lib.hid hb⟩
theorem clonei_hb {W w : World} {HB : Hid (Below W.heap.size W w)} (A : Option Addr) (n c : Nat) (hn : n ≤ 1048576) (Z : Nat → Int) (hp : Ints W A n Z) :
    Calls Try.prog 41 #[.slice A n c] w fun e w' => (∃ A' c' g, e = .returned (.slice A' n c') ∧ n ≤ c' ∧ Hid (NewI w w' A' n g Z)) ∧ Hid (Below W.heap.size W w') ∧ Hid (Below w.heap.size w w') :=
  (clone_ints A n c w hn Z (hp.below HB.out)).mono fun e w' ⟨⟨A', c', g, h⟩, hb⟩ => ⟨⟨A', c', g, h.1, h.2.1, Lib.hid h.2.2⟩, Lib.hid (HB.out.trans (hb.mono HB.out.size)), Lib.hid hb⟩
set_option maxRecDepth 100000 in
set_option maxHeartbeats 1000000 in
theorem copy_impl (r : Rc) (A D : Option Addr) (c d : Nat) (w : World) (hn : r.n ≤ 1048576) (hm : r.m ≤ 1048576) (hp : Pts w A r.n r.X r.Y) (hd : Ints w D r.m r.Z) :
    Calls Try.prog 34 #[.agg #[.slice A r.n c, .int .i64 r.v, .slice D r.m d]] w (GivesR w r) := by
  have HP := Lib.hid hp
  have HD := Lib.hid hd
  clear hp hd
  have HB0 := Lib.hid (((Below.refl w.heap.size w).alloc (Nat.le_refl _) (.cells #[.slice A r.n c, .int .i64 r.v, .slice D r.m d] 29)).alloc (by simp) (.cells #[.slice none 0 0, .int .i64 0, .slice none 0 0] 29))
  have hx0 := (Box.new w (.slice A r.n c) (.int .i64 r.v) (.slice D r.m d) 29).alloc (.cells #[.slice none 0 0, .int .i64 0, .slice none 0 0] 29)
  have hr0 := Box.new (w.alloc (.cells #[.slice A r.n c, .int .i64 r.v, .slice D r.m d] 29)) (.slice none 0 0) (.int .i64 0) (.slice none 0 0) 29
  simp at hr0
  have HX0 := Lib.hid hx0
  have HR0 := Lib.hid hr0
  clear hx0 hr0
  go_enter Try.func34, Try.ntmps34
  go_wp2
  generalize hW : ((w.alloc (.cells #[.slice A r.n c, .int .i64 r.v, .slice D r.m d] 29)).alloc (.cells #[.slice none 0 0, .int .i64 0, .slice none 0 0] 29)) = W at *
  have q0 : w.heap.size + 1 < W.heap.size := by rw [← hW]; simp
  have q1 : w.heap.size < W.heap.size := by omega
  clear hW
  obtain ⟨x0, x1, x2⟩ := HX0.out.at
  have HW := Lib.hid (Below.refl W.heap.size W)
  go_region_held3 (fun w' => w'.cell? ⟨w.heap.size, 0, none⟩ = some (.slice A r.n c) ∧ w'.cell? ⟨w.heap.size, 1, none⟩ = some (.int .i64 r.v) ∧ w'.cell? ⟨w.heap.size, 2, none⟩ = some (.slice D r.m d))
    (first
      | exact ⟨x0, x1, x2⟩
      | assumption
      | (obtain ⟨a0, a1, a2⟩ : _ ∧ _ ∧ _ := by assumption
         exact ⟨keep3 (by omega) a0, keep3 (by omega) a1, keep3 (by omega) a2⟩))
    (first
      | (go_at_call 40
         refine (clone_hb (W := W) (HB := by first | assumption | exact Lib.hid (Below.refl _ _).drew) _ _ _ hn _ _ (HP.out.below HB0.out)).mono ?_
         rintro e w' ⟨⟨A1, c1, g1, rfl, HQ1⟩, HBy, HC1⟩
         have HRy := Lib.hid (HR0.out.below HBy.out)
         obtain ⟨y0, y1, y2⟩ := HRy.out.at
         obtain ⟨s0, s1, s2⟩ := HRy.out.free
         obtain ⟨a0, a1, a2⟩ := (HX0.out.below HBy.out).at
         have S1 := And.intro a0 (And.intro a1 a2)
         clear a0 a1 a2)
      | (go_at_call 41
         refine (clonei_hb (W := W) (HB := by first | assumption | exact Lib.hid (Below.refl _ _).drew) _ _ _ hm _ (HD.out.below HB0.out)).mono ?_
         rintro e w' ⟨⟨D1, d1, g2, rfl, hcd, HQ2⟩, HBy, HC2⟩
         have HRy := Lib.hid (HR0.out.below HBy.out)
         obtain ⟨y0, y1, y2⟩ := HRy.out.at
         obtain ⟨s0, s1, s2⟩ := HRy.out.free
         obtain ⟨a0, a1, a2⟩ := (HX0.out.below HBy.out).at
         have S1 := And.intro a0 (And.intro a1 a2)
         clear a0 a1 a2))
  have HU := Lib.hid ((((Touch.refl w' (w.heap.size + 1) (w.heap.size + 1 + 1)).set (w.heap.size + 1) 0 (.slice A1 r.n c1) (by omega) (by omega)).set (w.heap.size + 1) 1 (.int .i64 r.v) (by omega) (by omega)).set (w.heap.size + 1) 2 (.slice D1 r.m d1) (by omega) (by omega))
  have HF := Lib.hid (own_join HQ1.out HQ2.out HC2.out (B := w.heap.size + 1 + 1) (by show _ ≤ W.heap.size; omega) (by show _ ≤ _; have := HC1.out.size; exact Nat.le_trans (by show _ ≤ W.heap.size; omega) this))
  have HB2 := Lib.hid (HB0.out.trans (HBy.out.mono HB0.out.size))
  clear S1 HQ1 HQ2 HC1 HC2
  go_wp2
  refine bodyPost_ret (v := .agg #[.slice A1 r.n c1, .int .i64 r.v, .slice D1 r.m d1]) (by simp [results, Try.results34, go_sem, y0, y1, y2]) rfl ?_
  have hs := HU.out.size
  exact ⟨⟨_, _, _, _, g1, g2, rfl, hcd, ((HF.out.touch HU.out (Or.inr (Nat.le_refl _))).wide (by omega) hs)⟩, HU.out.below HB2.out (by omega)⟩
end Go.Proofs.Ytlaffdfnmpkocaa.C1
