/- PassOn of the program. (written by wip/genpass.py) -/
import Derived.Test.YtlaffdfnmpkocaaPassM
namespace Go.Proofs.Ytlaffdfnmpkocaa.C1
open Go.ChangeShapes Go.WideShapes Go.ChangeAt Go.RowKit
set_option linter.unusedVariables false

section
variable {W0 w : World} {HB : Veil (Below W0.heap.size W0 w)}
include HB
theorem spaceimpl_v (r : Rc) (A D : Option Addr) (c d : Nat) (hn : r.n ≤ 1048576) (hm : r.m ≤ 1048576) (hp : Pts W0 A r.n r.X r.Y) (hd : Ints W0 D r.m r.Z) :
    Calls Try.prog 21 #[.agg #[.slice A r.n c, .int .i64 r.v, .slice D r.m d]] w fun e w' => e = .returned (.int .i64 (spaceR r)) ∧ Veil (Below W0.heap.size W0 w') ∧ Below w.heap.size w w' :=
  (space_impl r A D c d w hn hm (hp.below HB.out) (hd.below HB.out)).mono fun e w' ⟨h1, h2⟩ => ⟨h1, vl (HB.out.trans (h2.mono HB.out.size)), h2⟩
theorem takeimpl_v (r : Rc) (A D : Option Addr) (c d : Nat) (a k : Int) (hn : r.n ≤ 1048576) (hm : r.m ≤ 1048576) (hk : k ≤ 9223372036854775807) (hp : Pts W0 A r.n r.X r.Y) (hd : Ints W0 D r.m r.Z) :
    Calls Try.prog 20 #[.agg #[.slice A r.n c, .int .i64 r.v, .slice D r.m d], .int .i64 a, .int .i64 k] w fun e w' => (∃ A1 c1 D1 d1 g1 g2, e = .returned (.tuple #[.agg #[.slice A1 r.n c1, .int .i64 (takeR r a k).v, .slice D1 r.m d1], .int .i64 (takeA r a k)]) ∧ r.m ≤ d1 ∧ Veil (Owned w' w.heap.size w'.heap.size A1 D1 (takeR r a k) g1 g2)) ∧ Veil (Below W0.heap.size W0 w') ∧ Below w.heap.size w w' :=
  (take_impl r A D c d a k w hn hm hk (hp.below HB.out) (hd.below HB.out)).mono fun e w' ⟨⟨A1, c1, D1, d1, g1, g2, h1, h2, h3⟩, h4⟩ => ⟨⟨A1, c1, D1, d1, g1, g2, h1, h2, vl h3⟩, vl (HB.out.trans (h4.mono HB.out.size)), h4⟩
theorem sendimpl_v (r : Rc) (A D : Option Addr) (c d : Nat) (a : Int) (hn : r.n ≤ 1048576) (hm : r.m ≤ 1048576) (hp : Pts W0 A r.n r.X r.Y) (hd : Ints W0 D r.m r.Z) :
    Calls Try.prog 22 #[.agg #[.slice A r.n c, .int .i64 r.v, .slice D r.m d], .int .i64 a] w fun e w' => (∃ A1 c1 D1 d1 g1 g2, e = .returned (.agg #[.slice A1 (sendR r a).n c1, .int .i64 (sendR r a).v, .slice D1 (sendR r a).m d1]) ∧ (sendR r a).m ≤ d1 ∧ Veil (Owned w' w.heap.size w'.heap.size A1 D1 (sendR r a) g1 g2)) ∧ Veil (Below W0.heap.size W0 w') ∧ Below w.heap.size w w' :=
  (send_impl r A D c d a w hn hm (hp.below HB.out) (hd.below HB.out)).mono fun e w' ⟨⟨A1, c1, D1, d1, g1, g2, h1, h2, h3⟩, h4⟩ => ⟨⟨A1, c1, D1, d1, g1, g2, h1, h2, vl h3⟩, vl (HB.out.trans (h4.mono HB.out.size)), h4⟩
end
theorem Box.new' {w : World} {b : Nat} {x y z : Value} {t : TypeId} (h : b = w.heap.size) : Box (w.alloc (.cells #[x, y, z] t)) b x y z t := by subst h; exact Box.new w x y z t
theorem Box.belowJ {w w' : World} {b : Nat} {x y z : Value} {t : TypeId} (hb : Below w.heap.size w w') (h : Box w b x y z t) : Box w' b x y z t := h.below hb
theorem Box.drewI {w : World} {b : Nat} {x y z : Value} {t : TypeId} (h : Box w b x y z t) : Box w.drew b x y z t := h
theorem Put.new {w wB : World} {r : Rc} {A D : Option Addr} {n m c d g1 g2 B L : Nat} {v : Int} (HO : Owned wB B L A D r g1 g2) (hB : w.heap.size + 1 + 1 + 1 + 1 ≤ B) (hL : L ≤ wB.heap.size) (hcd : m ≤ d) (hw : w.heap.size + 1 + 1 + 1 < wB.heap.size) (en : r.n = n) (em : r.m = m) (ev : r.v = v) :
    Put w (wB.alloc (.cells #[.slice A n c, .int .i64 v, .slice D m d] 29)) wB.heap.size r := by
  subst en; subst em; subst ev
  exact ⟨A, c, D, d, g1, g2, Box.new _ _ _ _ _, hcd, (HO.past _).wide hB (by simp; omega), hw⟩
theorem Put.fill {w wB : World} {b : Nat} {r : Rc} {A D : Option Addr} {n m c d g1 g2 B L : Nat} {v : Int} {x y z : Value} (HO : Owned wB B L A D r g1 g2) (hB : w.heap.size + 1 + 1 + 1 + 1 ≤ B) (hL : L ≤ wB.heap.size) (hb : b < B) (hcd : m ≤ d) (hw : Box wB b x y z 29) (hwb : w.heap.size + 1 + 1 + 1 < b) (en : r.n = n) (em : r.m = m) (ev : r.v = v) :
    Put w (((wB.setCell ⟨b, 0, none⟩ (.slice A n c)).setCell ⟨b, 1, none⟩ (.int .i64 v)).setCell ⟨b, 2, none⟩ (.slice D m d)) b r := by
  subst en; subst em; subst ev
  exact ⟨A, c, D, d, g1, g2, Box.fill hw, hcd, (HO.fill (Or.inl hb)).wide hB (by simpa using hL), hwb⟩
theorem end_rri {w w5 : World} {r t : Rc} {A D A' D' : Option Addr} {c d c' d' g1 g2 g3 g4 B L B' L' : Nat} {k : Int} {p q : Nat} {u0 u1 u2 u3 u4 u5 : Value} (hB : Below w.heap.size w w5) (hO : Owned w5 B L A D r g1 g2) (hO' : Owned w5 B' L' A' D' t g3 g4) (hp : w.heap.size ≤ p ∧ p < B) (hq : w.heap.size ≤ q ∧ q < B) (hBL : B ≤ L) (hL : L ≤ B') (hL' : L' ≤ w5.heap.size) (hcd : r.m ≤ d) (hcd' : t.m ≤ d') (hLs : L ≤ w5.heap.size) :
    GivesRRI w r t k (.returned (.tuple #[.agg #[.slice A r.n c, .int .i64 r.v, .slice D r.m d], .agg #[.slice A' t.n c', .int .i64 t.v, .slice D' t.m d'], .int .i64 k])) ((((((w5.setCell ⟨p, 0, none⟩ u0).setCell ⟨p, 1, none⟩ u1).setCell ⟨p, 2, none⟩ u2).setCell ⟨q, 0, none⟩ u3).setCell ⟨q, 1, none⟩ u4).setCell ⟨q, 2, none⟩ u5) := by
  have hT := (touch3 (w := w5) (g := p) u0 u1 u2)
  have hT' := (touch3 (w := (((w5.setCell ⟨p, 0, none⟩ u0).setCell ⟨p, 1, none⟩ u1).setCell ⟨p, 2, none⟩ u2)) (g := q) u3 u4 u5)
  refine ⟨⟨A, c, D, d, g1, g2, A', c', D', d', g3, g4, L, rfl, hcd, hcd', ?_, ?_, by omega, by simpa using hLs⟩, ?_⟩
  · exact ((hO.touch hT (by omega)).touch hT' (by omega)).wide (by omega) (Nat.le_refl _)
  · exact ((hO'.touch hT (by omega)).touch hT' (by omega)).wide (by omega) (by simpa using hL')
  · exact hT'.below (hT.below hB (by omega)) (by omega)
set_option maxRecDepth 100000 in
set_option maxHeartbeats 4000000 in
theorem pass_impl (r t : Rc) (A D A' D' : Option Addr) (c d c' d' : Nat) (a k : Int) (w : World) (hn : r.n ≤ 1048576) (hm : r.m ≤ 1048576) (hn' : t.n ≤ 1048576) (hm' : t.m ≤ 1048576) (hk : k ≤ 9223372036854775807) (hp : Pts w A r.n r.X r.Y) (hd : Ints w D r.m r.Z) (hp' : Pts w A' t.n t.X t.Y) (hd' : Ints w D' t.m t.Z) :
    Calls Try.prog 7 #[.agg #[.slice A r.n c, .int .i64 r.v, .slice D r.m d], .agg #[.slice A' t.n c', .int .i64 t.v, .slice D' t.m d'], .int .i64 a, .int .i64 k] w (GivesRRI w (pass1 r t a k) (pass2 r t a k) (passN r t a k)) := by
  have HK00 := vl (Four.new w (.slice A r.n c) (.int .i64 r.v) (.slice D r.m d) (.slice A' t.n c') (.int .i64 t.v) (.slice D' t.m d'))
  have HPr0 := vl (hp.below HK00.out.b)
  have HDr0 := vl (hd.below HK00.out.b)
  have HPt0 := vl (hp'.below HK00.out.b)
  have HDt0 := vl (hd'.below HK00.out.b)
  clear hp hd hp' hd'
  by_cases hle : a ≤ spaceR t
  · have HM := vl (show passM t a = a by unfold passM; omega)
    have HN := vl (show passN r t a k = takeA r a k by unfold passN; rw [HM.out])
    have H1 := vl (show pass1 r t a k = takeR r a k by unfold pass1; rw [HM.out])
    have H2 := vl (show pass2 r t a k = sendR t (takeA r a k) by unfold pass2; rw [HN.out])
    go_enter Try.func7, Try.ntmps7
    go_upto_region 1 with fail
    obtain ⟨W, hW⟩ : ∃ W, ((((w.alloc (.cells #[.slice A r.n c, .int .i64 r.v, .slice D r.m d] 29)).alloc (.cells #[.slice A' t.n c', .int .i64 t.v, .slice D' t.m d'] 29)).alloc (.cells #[.slice none 0 0, .int .i64 0, .slice none 0 0] 29)).alloc (.cells #[.slice none 0 0, .int .i64 0, .slice none 0 0] 29)) = W := ⟨_, rfl⟩
    have HK0 : Veil (Four w W (.slice A r.n c) (.int .i64 r.v) (.slice D r.m d) (.slice A' t.n c') (.int .i64 t.v) (.slice D' t.m d')) := by rw [← hW]; exact HK00
    have HPr : Veil (Pts W A r.n r.X r.Y) := by rw [← hW]; exact HPr0
    have HDr : Veil (Ints W D r.m r.Z) := by rw [← hW]; exact HDr0
    have HPt : Veil (Pts W A' t.n t.X t.Y) := by rw [← hW]; exact HPt0
    have HDt : Veil (Ints W D' t.m t.Z) := by rw [← hW]; exact HDt0
    rw [hW]
    clear hW HK00 HPr0 HDr0 HPt0 HDt0
    have qW := HK0.out.lt
    go_cut [11, 12] (fun s11 s12 wx => ∃ b : Nat, s11 = .pointer (some ⟨b, 0, none⟩) ∧ s12 = .int .i64 (takeA r a k) ∧ Veil (Four w wx (.slice A r.n c) (.int .i64 r.v) (.slice D r.m d) (.slice A' t.n c') (.int .i64 t.v) (.slice D' t.m d')) ∧ Veil (Put w wx b (takeR r a k)) ∧ Veil (Below W.heap.size W wx))
    case first =>
      have HW := vl (Below.refl W.heap.size W)
      obtain ⟨x0, x1, x2, y0, y1, y2⟩ := HK0.out.cells
      go_region_held3 (fun w' => w'.cell? ⟨w.heap.size, 0, none⟩ = some (.slice A r.n c) ∧ w'.cell? ⟨w.heap.size, 1, none⟩ = some (.int .i64 r.v) ∧ w'.cell? ⟨w.heap.size, 2, none⟩ = some (.slice D r.m d) ∧ w'.cell? ⟨w.heap.size + 1, 0, none⟩ = some (.slice A' t.n c') ∧ w'.cell? ⟨w.heap.size + 1, 1, none⟩ = some (.int .i64 t.v) ∧ w'.cell? ⟨w.heap.size + 1, 2, none⟩ = some (.slice D' t.m d'))
        (first | (with_reducible assumption) | (with_reducible exact (HKB.out.past _).cells) | (with_reducible exact (HKB.out.past _).drewI.cells) | (with_reducible refine (HKB.out.fill ?_).cells; first | omega | (simp; omega)) | (with_reducible exact (HKA.out.past _).cells) | (with_reducible exact (HKA.out.past _).drewI.cells) | (with_reducible refine (HKA.out.fill ?_).cells; first | omega | (simp; omega)) | (with_reducible exact (HK0.out.past _).cells) | (with_reducible exact (HK0.out.past _).drewI.cells) | (with_reducible refine (HK0.out.fill ?_).cells; first | omega | (simp; omega)) | (with_reducible exact HK0.out.cells) | exact HK0.out.cells)
        (first
          | (go_at_call 21
             refine (spaceimpl_v (W0 := W) (HB := vl (by (repeat' (first | (with_reducible exact Below.refl _ _) | (with_reducible refine Below.drew ?_) | (with_reducible refine Below.alloc ?_ ?_ _) | (with_reducible refine Below.setCell ?_ ?_ _) | (with_reducible refine Below.trans ?_ (HBA.out.mono ?_)) | (first | omega | (simp; omega) | (simp; done)))))) t _ _ _ _ hn' hm' HPt.out HDt.out).mono ?_
             rintro e wA ⟨rfl, HBA, hA⟩
             have HKA := vl (HK0.out.below HBA.out)
             have SA := HKA.out.cells
             obtain ⟨kA, fA⟩ := bcell hA; have zA := hA.size; (try simp at zA); have uA := HKA.out.lt; (try (have uWA : W.heap.size < wA.heap.size := by omega)))
          | (go_at_call 20
             refine (takeimpl_v (W0 := W) (HB := vl (by (repeat' (first | (with_reducible exact Below.refl _ _) | (with_reducible refine Below.drew ?_) | (with_reducible refine Below.alloc ?_ ?_ _) | (with_reducible refine Below.setCell ?_ ?_ _) | (with_reducible refine Below.trans ?_ (HBA.out.mono ?_)) | (first | omega | (simp; omega) | (simp; done)))))) r _ _ _ _ _ _ hn hm hk HPr.out HDr.out).mono ?_
             rintro e wB ⟨⟨A1, c1, D1, d1, g1, g2, rfl, hcd, HO⟩, HBB, hB⟩
             have HKB := vl (HK0.out.below HBB.out)
             have SB := HKB.out.cells
             obtain ⟨kB, fB⟩ := bcell hB; have zB := hB.size; (try simp at zB); have uB := HKB.out.lt; (try (have uWB : W.heap.size < wB.heap.size := by omega)); (try (have uBA : wA.heap.size < wB.heap.size := by omega))))
      all_goals
        go_wp2_with fail
        go_meet
        refine ⟨_, rfl, rfl, vl ?_, vl ?_, vl ?_⟩
        · first
            | (with_reducible exact HKB.out.past _)
            | (with_reducible refine HKB.out.fill ?_; first | omega | (simp; omega))
        · first
            | ((with_reducible refine Put.new HO.out ?_ ?_ hcd ?_ rfl rfl rfl) <;> (first | omega | (simp; omega) | (simp; done)))
            | ((with_reducible refine Put.fill (x := .slice none 0 0) (y := .int .i64 0) (z := .slice none 0 0) HO.out ?_ ?_ ?_ hcd ?_ ?_ rfl rfl rfl)
               all_goals (first
                 | ((repeat' (first | (with_reducible apply Box.drewI) | ((with_reducible apply Box.new'); · (first | rfl | (simp; done))) | (with_reducible apply Box.belowJ hB) | (with_reducible apply Box.belowJ hA))); done)
                 | omega
                 | (simp; omega)
                 | (simp; done)))
        · (repeat' (first | (with_reducible exact Below.refl _ _) | (with_reducible refine Below.drew ?_) | (with_reducible refine Below.alloc ?_ ?_ _) | (with_reducible refine Below.setCell ?_ ?_ _) | (with_reducible refine Below.trans ?_ (HBB.out.mono ?_)) | (first | omega | (simp; omega) | (simp; done))))
    case rest =>
      obtain ⟨b, rfl, rfl, HK, HP, HBW⟩ := hcut
      clear HK0 qW
      obtain ⟨A1, c1, D1, d1, g1, g2, hbx, hcd, hO, hlb⟩ := HP.out
      have HX := vl hbx
      have HO := vl hO
      have hcl := HK.out.lt
      have hbc := hbx.lt
      clear hbx hO
      have HPt' := vl (HPt.out.below HBW.out)
      have HDt' := vl (HDt.out.below HBW.out)
      obtain ⟨x0, x1, x2, y0, y1, y2⟩ := HK.out.cells
      obtain ⟨v0, v1, v2⟩ := HX.out.at
      go_wp2_with fail
      go_region_held3 (fun w' => w'.cell? ⟨w.heap.size, 0, none⟩ = some (.slice A r.n c) ∧ w'.cell? ⟨w.heap.size, 1, none⟩ = some (.int .i64 r.v) ∧ w'.cell? ⟨w.heap.size, 2, none⟩ = some (.slice D r.m d) ∧ w'.cell? ⟨w.heap.size + 1, 0, none⟩ = some (.slice A' t.n c') ∧ w'.cell? ⟨w.heap.size + 1, 1, none⟩ = some (.int .i64 t.v) ∧ w'.cell? ⟨w.heap.size + 1, 2, none⟩ = some (.slice D' t.m d') ∧ w'.cell? ⟨b, 0, none⟩ = some (.slice A1 (takeR r a k).n c1) ∧ w'.cell? ⟨b, 1, none⟩ = some (.int .i64 (takeR r a k).v) ∧ w'.cell? ⟨b, 2, none⟩ = some (.slice D1 (takeR r a k).m d1))
        (first
          | (with_reducible assumption)
          | (with_reducible exact ⟨x0, x1, x2, y0, y1, y2, v0, v1, v2⟩)
          | (obtain ⟨a0, a1, a2, a3, a4, a5, a6, a7, a8⟩ : _ ∧ _ ∧ _ ∧ _ ∧ _ ∧ _ ∧ _ ∧ _ ∧ _ := by assumption
             (with_reducible refine ⟨keep3 ?_ a0, keep3 ?_ a1, keep3 ?_ a2, keep3 ?_ a3, keep3 ?_ a4, keep3 ?_ a5, keep3 ?_ a6, keep3 ?_ a7, keep3 ?_ a8⟩) <;> omega)
          | exact ⟨x0, x1, x2, y0, y1, y2, v0, v1, v2⟩)
        ((go_at_call 22
          refine (sendimpl_v (W0 := wc) (HB := vl (by first | exact Below.refl _ _ | exact (Below.refl _ _).drew)) t _ _ _ _ _ hn' hm' HPt'.out HDt'.out).mono ?_
          rintro e wS ⟨⟨A2, c2, D2, d2, g3, g4, rfl, hcd2, HO2⟩, HBS, hS⟩
          have HKS := vl (HK.out.below HBS.out)
          have HXS := vl (HX.out.below HBS.out)
          have HOS := vl (HO.out.below HBS.out)
          have hSl := HKS.out.lt
          have hSs := HBS.out.size
          have SS : _ ∧ _ ∧ _ ∧ _ ∧ _ ∧ _ ∧ _ ∧ _ ∧ _ := ⟨(HKS.out).cells.1, (HKS.out).cells.2.1, (HKS.out).cells.2.2.1, (HKS.out).cells.2.2.2.1, (HKS.out).cells.2.2.2.2.1, (HKS.out).cells.2.2.2.2.2, (HXS.out).at.1, (HXS.out).at.2.1, (HXS.out).at.2.2⟩
          obtain ⟨p0, p1, p2⟩ := HKS.out.u.at
          obtain ⟨p3, p4, p5⟩ := HKS.out.v.at
          obtain ⟨s0, s1, s2⟩ := HKS.out.u.free
          obtain ⟨s3, s4, s5⟩ := HKS.out.v.free))
      all_goals
        go_wp2
        refine bodyPost_ret (v := .tuple #[.agg #[.slice A1 (takeR r a k).n c1, .int .i64 (takeR r a k).v, .slice D1 (takeR r a k).m d1], .agg #[.slice A2 (sendR t (takeA r a k)).n c2, .int .i64 (sendR t (takeA r a k)).v, .slice D2 (sendR t (takeA r a k)).m d2], .int .i64 (takeA r a k)]) (by simp [results, Try.results7, go_sem, p0, p1, p2, p3, p4, p5]) rfl ?_
        rw [HN.out, H1.out, H2.out]
        simp only [World.size_drew] at HO2
        have hfin := end_rri (c := c1) (c' := c2) (p := w.heap.size + 1 + 1) (q := w.heap.size + 1 + 1 + 1) (u0 := .slice A1 (takeR r a k).n c1) (u1 := .int .i64 (takeR r a k).v) (u2 := .slice D1 (takeR r a k).m d1) (u3 := .slice A2 (sendR t (takeA r a k)).n c2) (u4 := .int .i64 (sendR t (takeA r a k)).v) (u5 := .slice D2 (sendR t (takeA r a k)).m d2) (k := takeA r a k) HKS.out.b HOS.out HO2.out (by omega) (by omega) (by omega) (Nat.le_refl _) (Nat.le_refl _) hcd hcd2 (by omega)
        first
          | exact hfin
          | exact ⟨hfin.1, hfin.2.drew⟩
  · have hgt : spaceR t < a := by omega
    clear hle
    have HM := vl (show passM t a = (spaceR t) by unfold passM; omega)
    have HN := vl (show passN r t a k = takeA r (spaceR t) k by unfold passN; rw [HM.out])
    have H1 := vl (show pass1 r t a k = takeR r (spaceR t) k by unfold pass1; rw [HM.out])
    have H2 := vl (show pass2 r t a k = sendR t (takeA r (spaceR t) k) by unfold pass2; rw [HN.out])
    go_enter Try.func7, Try.ntmps7
    go_upto_region 1 with fail
    obtain ⟨W, hW⟩ : ∃ W, ((((w.alloc (.cells #[.slice A r.n c, .int .i64 r.v, .slice D r.m d] 29)).alloc (.cells #[.slice A' t.n c', .int .i64 t.v, .slice D' t.m d'] 29)).alloc (.cells #[.slice none 0 0, .int .i64 0, .slice none 0 0] 29)).alloc (.cells #[.slice none 0 0, .int .i64 0, .slice none 0 0] 29)) = W := ⟨_, rfl⟩
    have HK0 : Veil (Four w W (.slice A r.n c) (.int .i64 r.v) (.slice D r.m d) (.slice A' t.n c') (.int .i64 t.v) (.slice D' t.m d')) := by rw [← hW]; exact HK00
    have HPr : Veil (Pts W A r.n r.X r.Y) := by rw [← hW]; exact HPr0
    have HDr : Veil (Ints W D r.m r.Z) := by rw [← hW]; exact HDr0
    have HPt : Veil (Pts W A' t.n t.X t.Y) := by rw [← hW]; exact HPt0
    have HDt : Veil (Ints W D' t.m t.Z) := by rw [← hW]; exact HDt0
    rw [hW]
    clear hW HK00 HPr0 HDr0 HPt0 HDt0
    have qW := HK0.out.lt
    go_cut [11, 12] (fun s11 s12 wx => ∃ b : Nat, s11 = .pointer (some ⟨b, 0, none⟩) ∧ s12 = .int .i64 (takeA r (spaceR t) k) ∧ Veil (Four w wx (.slice A r.n c) (.int .i64 r.v) (.slice D r.m d) (.slice A' t.n c') (.int .i64 t.v) (.slice D' t.m d')) ∧ Veil (Put w wx b (takeR r (spaceR t) k)) ∧ Veil (Below W.heap.size W wx))
    case first =>
      have HW := vl (Below.refl W.heap.size W)
      obtain ⟨x0, x1, x2, y0, y1, y2⟩ := HK0.out.cells
      go_region_held3 (fun w' => w'.cell? ⟨w.heap.size, 0, none⟩ = some (.slice A r.n c) ∧ w'.cell? ⟨w.heap.size, 1, none⟩ = some (.int .i64 r.v) ∧ w'.cell? ⟨w.heap.size, 2, none⟩ = some (.slice D r.m d) ∧ w'.cell? ⟨w.heap.size + 1, 0, none⟩ = some (.slice A' t.n c') ∧ w'.cell? ⟨w.heap.size + 1, 1, none⟩ = some (.int .i64 t.v) ∧ w'.cell? ⟨w.heap.size + 1, 2, none⟩ = some (.slice D' t.m d'))
        (first | (with_reducible assumption) | (with_reducible exact (HKB.out.past _).cells) | (with_reducible exact (HKB.out.past _).drewI.cells) | (with_reducible refine (HKB.out.fill ?_).cells; first | omega | (simp; omega)) | (with_reducible exact (HKA.out.past _).cells) | (with_reducible exact (HKA.out.past _).drewI.cells) | (with_reducible refine (HKA.out.fill ?_).cells; first | omega | (simp; omega)) | (with_reducible exact (HK0.out.past _).cells) | (with_reducible exact (HK0.out.past _).drewI.cells) | (with_reducible refine (HK0.out.fill ?_).cells; first | omega | (simp; omega)) | (with_reducible exact HK0.out.cells) | exact HK0.out.cells)
        (first
          | (go_at_call 21
             refine (spaceimpl_v (W0 := W) (HB := vl (by (repeat' (first | (with_reducible exact Below.refl _ _) | (with_reducible refine Below.drew ?_) | (with_reducible refine Below.alloc ?_ ?_ _) | (with_reducible refine Below.setCell ?_ ?_ _) | (with_reducible refine Below.trans ?_ (HBA.out.mono ?_)) | (first | omega | (simp; omega) | (simp; done)))))) t _ _ _ _ hn' hm' HPt.out HDt.out).mono ?_
             rintro e wA ⟨rfl, HBA, hA⟩
             have HKA := vl (HK0.out.below HBA.out)
             have SA := HKA.out.cells
             obtain ⟨kA, fA⟩ := bcell hA; have zA := hA.size; (try simp at zA); have uA := HKA.out.lt; (try (have uWA : W.heap.size < wA.heap.size := by omega)))
          | (go_at_call 20
             refine (takeimpl_v (W0 := W) (HB := vl (by (repeat' (first | (with_reducible exact Below.refl _ _) | (with_reducible refine Below.drew ?_) | (with_reducible refine Below.alloc ?_ ?_ _) | (with_reducible refine Below.setCell ?_ ?_ _) | (with_reducible refine Below.trans ?_ (HBA.out.mono ?_)) | (first | omega | (simp; omega) | (simp; done)))))) r _ _ _ _ _ _ hn hm hk HPr.out HDr.out).mono ?_
             rintro e wB ⟨⟨A1, c1, D1, d1, g1, g2, rfl, hcd, HO⟩, HBB, hB⟩
             have HKB := vl (HK0.out.below HBB.out)
             have SB := HKB.out.cells
             obtain ⟨kB, fB⟩ := bcell hB; have zB := hB.size; (try simp at zB); have uB := HKB.out.lt; (try (have uWB : W.heap.size < wB.heap.size := by omega)); (try (have uBA : wA.heap.size < wB.heap.size := by omega))))
      all_goals
        go_wp2_with fail
        go_meet
        refine ⟨_, rfl, rfl, vl ?_, vl ?_, vl ?_⟩
        · first
            | (with_reducible exact HKB.out.past _)
            | (with_reducible refine HKB.out.fill ?_; first | omega | (simp; omega))
        · first
            | ((with_reducible refine Put.new HO.out ?_ ?_ hcd ?_ rfl rfl rfl) <;> (first | omega | (simp; omega) | (simp; done)))
            | ((with_reducible refine Put.fill (x := .slice none 0 0) (y := .int .i64 0) (z := .slice none 0 0) HO.out ?_ ?_ ?_ hcd ?_ ?_ rfl rfl rfl)
               all_goals (first
                 | ((repeat' (first | (with_reducible apply Box.drewI) | ((with_reducible apply Box.new'); · (first | rfl | (simp; done))) | (with_reducible apply Box.belowJ hB) | (with_reducible apply Box.belowJ hA))); done)
                 | omega
                 | (simp; omega)
                 | (simp; done)))
        · (repeat' (first | (with_reducible exact Below.refl _ _) | (with_reducible refine Below.drew ?_) | (with_reducible refine Below.alloc ?_ ?_ _) | (with_reducible refine Below.setCell ?_ ?_ _) | (with_reducible refine Below.trans ?_ (HBB.out.mono ?_)) | (first | omega | (simp; omega) | (simp; done))))
    case rest =>
      obtain ⟨b, rfl, rfl, HK, HP, HBW⟩ := hcut
      clear HK0 qW
      obtain ⟨A1, c1, D1, d1, g1, g2, hbx, hcd, hO, hlb⟩ := HP.out
      have HX := vl hbx
      have HO := vl hO
      have hcl := HK.out.lt
      have hbc := hbx.lt
      clear hbx hO
      have HPt' := vl (HPt.out.below HBW.out)
      have HDt' := vl (HDt.out.below HBW.out)
      obtain ⟨x0, x1, x2, y0, y1, y2⟩ := HK.out.cells
      obtain ⟨v0, v1, v2⟩ := HX.out.at
      go_wp2_with fail
      go_region_held3 (fun w' => w'.cell? ⟨w.heap.size, 0, none⟩ = some (.slice A r.n c) ∧ w'.cell? ⟨w.heap.size, 1, none⟩ = some (.int .i64 r.v) ∧ w'.cell? ⟨w.heap.size, 2, none⟩ = some (.slice D r.m d) ∧ w'.cell? ⟨w.heap.size + 1, 0, none⟩ = some (.slice A' t.n c') ∧ w'.cell? ⟨w.heap.size + 1, 1, none⟩ = some (.int .i64 t.v) ∧ w'.cell? ⟨w.heap.size + 1, 2, none⟩ = some (.slice D' t.m d') ∧ w'.cell? ⟨b, 0, none⟩ = some (.slice A1 (takeR r (spaceR t) k).n c1) ∧ w'.cell? ⟨b, 1, none⟩ = some (.int .i64 (takeR r (spaceR t) k).v) ∧ w'.cell? ⟨b, 2, none⟩ = some (.slice D1 (takeR r (spaceR t) k).m d1))
        (first
          | (with_reducible assumption)
          | (with_reducible exact ⟨x0, x1, x2, y0, y1, y2, v0, v1, v2⟩)
          | (obtain ⟨a0, a1, a2, a3, a4, a5, a6, a7, a8⟩ : _ ∧ _ ∧ _ ∧ _ ∧ _ ∧ _ ∧ _ ∧ _ ∧ _ := by assumption
             (with_reducible refine ⟨keep3 ?_ a0, keep3 ?_ a1, keep3 ?_ a2, keep3 ?_ a3, keep3 ?_ a4, keep3 ?_ a5, keep3 ?_ a6, keep3 ?_ a7, keep3 ?_ a8⟩) <;> omega)
          | exact ⟨x0, x1, x2, y0, y1, y2, v0, v1, v2⟩)
        ((go_at_call 22
          refine (sendimpl_v (W0 := wc) (HB := vl (by first | exact Below.refl _ _ | exact (Below.refl _ _).drew)) t _ _ _ _ _ hn' hm' HPt'.out HDt'.out).mono ?_
          rintro e wS ⟨⟨A2, c2, D2, d2, g3, g4, rfl, hcd2, HO2⟩, HBS, hS⟩
          have HKS := vl (HK.out.below HBS.out)
          have HXS := vl (HX.out.below HBS.out)
          have HOS := vl (HO.out.below HBS.out)
          have hSl := HKS.out.lt
          have hSs := HBS.out.size
          have SS : _ ∧ _ ∧ _ ∧ _ ∧ _ ∧ _ ∧ _ ∧ _ ∧ _ := ⟨(HKS.out).cells.1, (HKS.out).cells.2.1, (HKS.out).cells.2.2.1, (HKS.out).cells.2.2.2.1, (HKS.out).cells.2.2.2.2.1, (HKS.out).cells.2.2.2.2.2, (HXS.out).at.1, (HXS.out).at.2.1, (HXS.out).at.2.2⟩
          obtain ⟨p0, p1, p2⟩ := HKS.out.u.at
          obtain ⟨p3, p4, p5⟩ := HKS.out.v.at
          obtain ⟨s0, s1, s2⟩ := HKS.out.u.free
          obtain ⟨s3, s4, s5⟩ := HKS.out.v.free))
      all_goals
        go_wp2
        refine bodyPost_ret (v := .tuple #[.agg #[.slice A1 (takeR r (spaceR t) k).n c1, .int .i64 (takeR r (spaceR t) k).v, .slice D1 (takeR r (spaceR t) k).m d1], .agg #[.slice A2 (sendR t (takeA r (spaceR t) k)).n c2, .int .i64 (sendR t (takeA r (spaceR t) k)).v, .slice D2 (sendR t (takeA r (spaceR t) k)).m d2], .int .i64 (takeA r (spaceR t) k)]) (by simp [results, Try.results7, go_sem, p0, p1, p2, p3, p4, p5]) rfl ?_
        rw [HN.out, H1.out, H2.out]
        simp only [World.size_drew] at HO2
        have hfin := end_rri (c := c1) (c' := c2) (p := w.heap.size + 1 + 1) (q := w.heap.size + 1 + 1 + 1) (u0 := .slice A1 (takeR r (spaceR t) k).n c1) (u1 := .int .i64 (takeR r (spaceR t) k).v) (u2 := .slice D1 (takeR r (spaceR t) k).m d1) (u3 := .slice A2 (sendR t (takeA r (spaceR t) k)).n c2) (u4 := .int .i64 (sendR t (takeA r (spaceR t) k)).v) (u5 := .slice D2 (sendR t (takeA r (spaceR t) k)).m d2) (k := takeA r (spaceR t) k) HKS.out.b HOS.out HO2.out (by omega) (by omega) (by omega) (Nat.le_refl _) (Nat.le_refl _) hcd hcd2 (by omega)
        first
          | exact hfin
          | exact ⟨hfin.1, hfin.2.drew⟩
end Go.Proofs.Ytlaffdfnmpkocaa.C1
