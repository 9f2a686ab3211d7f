/- LetThrough of the program. (written by wip/genlet.py) -/
import Derived.Test.YtabdbpkolmlpeaaLetM
namespace Go.Proofs.Ytabdbpkolmlpeaa.C1
open Go.ChangeShapes Go.WideShapes Go.ChangeAt Go.RowKit
set_option linter.unusedVariables false

section
variable {W0 w : World} {HB : Veil (Below W0.heap.size W0 w)}
include HB
theorem levelimpl_v (r : Rc) (A D : Option Addr) (c d : Nat) (hn : r.n ≤ 1048576) (hm : r.m ≤ 1048576) (hp : Pts W0 A r.n r.X r.Y) (hd : Ints W0 D r.m r.Z) :
    Calls Try.prog 9 #[.agg #[.slice A r.n c, .int .i64 r.v, .slice D r.m d]] w fun e w' => e = .returned (.int .i64 (levelR r)) ∧ Veil (Below W0.heap.size W0 w') ∧ Below w.heap.size w w' :=
  (level_impl r A D c d w hn hm (hp.below HB.out) (hd.below HB.out)).mono fun e w' ⟨h1, h2⟩ => ⟨h1, vl (HB.out.trans (h2.mono HB.out.size)), h2⟩
theorem gflowimpl_v (V : Wr) (up down : Int) : Calls Try.prog 17 #[.agg #[.int .i64 V.g, .int .i64 V.o, .int .i64 V.s, .int .i64 V.k, .int .i64 V.w], .int .i64 up, .int .i64 down] w fun e w' => e = .returned (.int .i64 (flowW V up down)) ∧ Veil (Below W0.heap.size W0 w') ∧ Below w.heap.size w w' :=
  (gflow_impl V up down w).mono fun e w' ⟨h1, h2⟩ => ⟨h1, vl (HB.out.trans (h2.mono HB.out.size)), h2⟩
theorem valimpl_v (A : Option Addr) (n cap : Nat) (x : Int) (hn : n ≤ 1048576) (X Y : Nat → Int) (hp : Pts W0 A n X Y) :
    Calls Try.prog 38 #[.slice A n cap, .int .i64 x] w fun e w' => e = .returned (.int .i64 (valZ n X Y x)) ∧ Veil (Below W0.heap.size W0 w') ∧ Below w.heap.size w w' :=
  (val_impl A n cap x w hn X Y (hp.below HB.out)).mono fun e w' ⟨h1, h2⟩ => ⟨h1, vl (HB.out.trans (h2.mono HB.out.size)), h2⟩
theorem passimpl_v (r t : Rc) (A D A' D' : Option Addr) (c d c' d' : Nat) (a k : Int) (hn : r.n ≤ 1048576) (hm : r.m ≤ 1048576) (hn' : t.n ≤ 1048576) (hm' : t.m ≤ 1048576) (hk : k ≤ 9223372036854775807) (hp : Pts W0 A r.n r.X r.Y) (hd : Ints W0 D r.m r.Z) (hp' : Pts W0 A' t.n t.X t.Y) (hd' : Ints W0 D' t.m t.Z) :
    Calls Try.prog 41 #[.agg #[.slice A r.n c, .int .i64 r.v, .slice D r.m d], .agg #[.slice A' t.n c', .int .i64 t.v, .slice D' t.m d'], .int .i64 a, .int .i64 k] w fun e w' => (∃ A1 c1 D1 d1 g1 g2 A2 c2 D2 d2 g3 g4 S M, S = w.heap.size ∧ e = .returned (.tuple #[.agg #[.slice A1 (pass1 r t a k).n c1, .int .i64 (pass1 r t a k).v, .slice D1 (pass1 r t a k).m d1], .agg #[.slice A2 (pass2 r t a k).n c2, .int .i64 (pass2 r t a k).v, .slice D2 (pass2 r t a k).m d2], .int .i64 (passN r t a k)]) ∧ (pass1 r t a k).m ≤ d1 ∧ (pass2 r t a k).m ≤ d2 ∧
      Veil (Owned w' S M A1 D1 (pass1 r t a k) g1 g2) ∧ Veil (Owned w' M w'.heap.size A2 D2 (pass2 r t a k) g3 g4) ∧ S ≤ M ∧ M ≤ w'.heap.size) ∧ Veil (Below W0.heap.size W0 w') ∧ Below w.heap.size w w' :=
  (pass_impl r t A D A' D' c d c' d' a k w hn hm hn' hm' hk (hp.below HB.out) (hd.below HB.out) (hp'.below HB.out) (hd'.below HB.out)).mono fun e w' ⟨⟨A1, c1, D1, d1, g1, g2, A2, c2, D2, d2, g3, g4, M, h1, h2, h3, h4, h5, h6, h7⟩, h8⟩ => ⟨⟨A1, c1, D1, d1, g1, g2, A2, c2, D2, d2, g3, g4, _, M, rfl, h1, h2, h3, vl h4, vl h5, h6, h7⟩, vl (HB.out.trans (h8.mono HB.out.size)), h8⟩
end
set_option maxRecDepth 100000 in
set_option maxHeartbeats 8000000 in
theorem let_impl (r t : Rc) (A D A' D' : Option Addr) (c d c' d' : Nat) (V : Wr) (w : World) (hn : r.n ≤ 1048576) (hm : r.m ≤ 1048576) (hn' : t.n ≤ 1048576) (hm' : t.m ≤ 1048576) (hp : Pts w A r.n r.X r.Y) (hd : Ints w D r.m r.Z) (hp' : Pts w A' t.n t.X t.Y) (hd' : Ints w D' t.m t.Z) :
    Calls Try.prog 15 #[.agg #[.slice A r.n c, .int .i64 r.v, .slice D r.m d], .agg #[.slice A' t.n c', .int .i64 t.v, .slice D' t.m d'], .agg #[.int .i64 V.g, .int .i64 V.o, .int .i64 V.s, .int .i64 V.k, .int .i64 V.w]] w (GivesRRI w (pass1 r t (letF r t V) (letK r V)) (pass2 r t (letF r t V) (letK r V)) (passN r t (letF r t V) (letK r V))) := by
  have HFl := vl (show flowW V (levelR r) (levelR t) = letF r t V by unfold letF; rfl)
  have HKl := vl (show valZ r.n r.X r.Y V.k = letK r V by unfold letK; rfl)
  have HK00 := vl (Five.new w (.slice A r.n c) (.int .i64 r.v) (.slice D r.m d) (.slice A' t.n c') (.int .i64 t.v) (.slice D' t.m d') V)
  have HPr0 := vl (hp.below HK00.out.b)
  have HDr0 := vl (hd.below HK00.out.b)
  have HPt0 := vl (hp'.below HK00.out.b)
  have HDt0 := vl (hd'.below HK00.out.b)
  have hkv : letK r V ≤ 9223372036854775807 := by have := valZ_range r.n r.X r.Y V.k; unfold letK; omega
  clear hp hd hp' hd'
  go_enter Try.func15, Try.ntmps15
  go_upto_region 1 with fail
  obtain ⟨W, hW⟩ : ∃ W, (((((w.alloc (.cells #[.slice A r.n c, .int .i64 r.v, .slice D r.m d] 29)).alloc (.cells #[.slice A' t.n c', .int .i64 t.v, .slice D' t.m d'] 29)).alloc (.cells #[.int .i64 V.g, .int .i64 V.o, .int .i64 V.s, .int .i64 V.k, .int .i64 V.w] 39)).alloc (.cells #[.slice none 0 0, .int .i64 0, .slice none 0 0] 29)).alloc (.cells #[.slice none 0 0, .int .i64 0, .slice none 0 0] 29)) = W := ⟨_, rfl⟩
  have HK0 : Veil (Five w W (.slice A r.n c) (.int .i64 r.v) (.slice D r.m d) (.slice A' t.n c') (.int .i64 t.v) (.slice D' t.m d') V) := by rw [← hW]; exact HK00
  have HPr : Veil (Pts W A r.n r.X r.Y) := by rw [← hW]; exact HPr0
  have HDr : Veil (Ints W D r.m r.Z) := by rw [← hW]; exact HDr0
  have HPt : Veil (Pts W A' t.n t.X t.Y) := by rw [← hW]; exact HPt0
  have HDt : Veil (Ints W D' t.m t.Z) := by rw [← hW]; exact HDt0
  rw [hW]
  clear hW HK00 HPr0 HDr0 HPt0 HDt0
  go_cut [9] (fun s9 wx => s9 = .int .i64 (letF r t V) ∧ Veil (Five w wx (.slice A r.n c) (.int .i64 r.v) (.slice D r.m d) (.slice A' t.n c') (.int .i64 t.v) (.slice D' t.m d') V) ∧ Veil (Below W.heap.size W wx))
  case first =>
    have HW := vl (Below.refl W.heap.size W)
    go_region_held3 (fun w' => w'.cell? ⟨w.heap.size, 0, none⟩ = some (.slice A r.n c) ∧ w'.cell? ⟨w.heap.size, 1, none⟩ = some (.int .i64 r.v) ∧ w'.cell? ⟨w.heap.size, 2, none⟩ = some (.slice D r.m d) ∧ w'.cell? ⟨w.heap.size + 1, 0, none⟩ = some (.slice A' t.n c') ∧ w'.cell? ⟨w.heap.size + 1, 1, none⟩ = some (.int .i64 t.v) ∧ w'.cell? ⟨w.heap.size + 1, 2, none⟩ = some (.slice D' t.m d') ∧ w'.cell? ⟨w.heap.size + 1 + 1, 0, none⟩ = some (.int .i64 V.g) ∧ w'.cell? ⟨w.heap.size + 1 + 1, 1, none⟩ = some (.int .i64 V.o) ∧ w'.cell? ⟨w.heap.size + 1 + 1, 2, none⟩ = some (.int .i64 V.s) ∧ w'.cell? ⟨w.heap.size + 1 + 1, 3, none⟩ = some (.int .i64 V.k) ∧ w'.cell? ⟨w.heap.size + 1 + 1, 4, none⟩ = some (.int .i64 V.w))
      (first
        | (with_reducible assumption)
        | (with_reducible exact HK0.out.cells)
        | (obtain ⟨a0, a1, a2, a3, a4, a5, a6, a7, a8, a9, a10⟩ : _ ∧ _ ∧ _ ∧ _ ∧ _ ∧ _ ∧ _ ∧ _ ∧ _ ∧ _ ∧ _ := by assumption
           (with_reducible refine ⟨keep3 ?_ a0, keep3 ?_ a1, keep3 ?_ a2, keep3 ?_ a3, keep3 ?_ a4, keep3 ?_ a5, keep3 ?_ a6, keep3 ?_ a7, keep3 ?_ a8, keep3 ?_ a9, keep3 ?_ a10⟩) <;> omega)
        | exact HK0.out.cells)
      (first
        | (go_at_call 9
           (with_reducible refine (levelimpl_v (W0 := W) (HB := vl (by (repeat' (first | (with_reducible exact Below.refl _ _) | (with_reducible refine Below.drew ?_) | (with_reducible refine Below.alloc ?_ ?_ _) | (with_reducible refine Below.setCell ?_ ?_ _) | (with_reducible refine Below.trans ?_ (HBE.out.mono ?_)) | (with_reducible refine Below.trans ?_ (HBD.out.mono ?_)) | (with_reducible refine Below.trans ?_ (HBC.out.mono ?_)) | (with_reducible refine Below.trans ?_ (HBB.out.mono ?_)) | (with_reducible refine Below.trans ?_ (HBA.out.mono ?_)) | (first | omega | (simp; omega) | (simp; done)))))) r _ _ _ _ hn hm HPr.out HDr.out).mono ?_)
           rintro e wA ⟨rfl, HBA, hA⟩
           have HKA := vl (HK0.out.below HBA.out)
           have SA := HKA.out.cells)
        | (go_at_call 9
           (with_reducible refine (levelimpl_v (W0 := W) (HB := vl (by (repeat' (first | (with_reducible exact Below.refl _ _) | (with_reducible refine Below.drew ?_) | (with_reducible refine Below.alloc ?_ ?_ _) | (with_reducible refine Below.setCell ?_ ?_ _) | (with_reducible refine Below.trans ?_ (HBE.out.mono ?_)) | (with_reducible refine Below.trans ?_ (HBD.out.mono ?_)) | (with_reducible refine Below.trans ?_ (HBC.out.mono ?_)) | (with_reducible refine Below.trans ?_ (HBB.out.mono ?_)) | (with_reducible refine Below.trans ?_ (HBA.out.mono ?_)) | (first | omega | (simp; omega) | (simp; done)))))) t _ _ _ _ hn' hm' HPt.out HDt.out).mono ?_)
           rintro e wB ⟨rfl, HBB, hB⟩
           have HKB := vl (HK0.out.below HBB.out)
           have SB := HKB.out.cells)
        | (go_at_call 17
           refine (gflowimpl_v (W0 := W) (HB := vl (by (repeat' (first | (with_reducible exact Below.refl _ _) | (with_reducible refine Below.drew ?_) | (with_reducible refine Below.alloc ?_ ?_ _) | (with_reducible refine Below.setCell ?_ ?_ _) | (with_reducible refine Below.trans ?_ (HBE.out.mono ?_)) | (with_reducible refine Below.trans ?_ (HBD.out.mono ?_)) | (with_reducible refine Below.trans ?_ (HBC.out.mono ?_)) | (with_reducible refine Below.trans ?_ (HBB.out.mono ?_)) | (with_reducible refine Below.trans ?_ (HBA.out.mono ?_)) | (first | omega | (simp; omega) | (simp; done)))))) V _ _).mono ?_
           rintro e wC ⟨rfl, HBC, hC⟩
           have HKC := vl (HK0.out.below HBC.out)
           have SC := HKC.out.cells
           rw [HFl.out]))
    all_goals
      go_wp2_with fail
      go_meet
      exact ⟨rfl, by first | (with_reducible exact HKC) | exact vl HKC.out.drewI, by first | (with_reducible exact HBC) | exact vl HBC.out.drew⟩
  case rest =>
    obtain ⟨rfl, HKn, HBn⟩ := hcut
    have HPr' := vl (HPr.out.below HBn.out)
    have HDr' := vl (HDr.out.below HBn.out)
    have HPt' := vl (HPt.out.below HBn.out)
    have HDt' := vl (HDt.out.below HBn.out)
    clear HK0 HPr HDr HPt HDt HBn
    have HK0 := HKn
    have HPr := HPr'
    have HDr := HDr'
    have HPt := HPt'
    have HDt := HDt'
    clear HKn HPr' HDr' HPt' HDt'
    have HW := vl (Below.refl wc.heap.size wc)
    go_wp2_with fail
    go_region_held3 (fun w' => w'.cell? ⟨w.heap.size, 0, none⟩ = some (.slice A r.n c) ∧ w'.cell? ⟨w.heap.size, 1, none⟩ = some (.int .i64 r.v) ∧ w'.cell? ⟨w.heap.size, 2, none⟩ = some (.slice D r.m d) ∧ w'.cell? ⟨w.heap.size + 1, 0, none⟩ = some (.slice A' t.n c') ∧ w'.cell? ⟨w.heap.size + 1, 1, none⟩ = some (.int .i64 t.v) ∧ w'.cell? ⟨w.heap.size + 1, 2, none⟩ = some (.slice D' t.m d') ∧ w'.cell? ⟨w.heap.size + 1 + 1, 0, none⟩ = some (.int .i64 V.g) ∧ w'.cell? ⟨w.heap.size + 1 + 1, 1, none⟩ = some (.int .i64 V.o) ∧ w'.cell? ⟨w.heap.size + 1 + 1, 2, none⟩ = some (.int .i64 V.s) ∧ w'.cell? ⟨w.heap.size + 1 + 1, 3, none⟩ = some (.int .i64 V.k) ∧ w'.cell? ⟨w.heap.size + 1 + 1, 4, none⟩ = some (.int .i64 V.w))
      (first
        | (with_reducible assumption)
        | (with_reducible exact HK0.out.cells)
        | (obtain ⟨a0, a1, a2, a3, a4, a5, a6, a7, a8, a9, a10⟩ : _ ∧ _ ∧ _ ∧ _ ∧ _ ∧ _ ∧ _ ∧ _ ∧ _ ∧ _ ∧ _ := by assumption
           (with_reducible refine ⟨keep3 ?_ a0, keep3 ?_ a1, keep3 ?_ a2, keep3 ?_ a3, keep3 ?_ a4, keep3 ?_ a5, keep3 ?_ a6, keep3 ?_ a7, keep3 ?_ a8, keep3 ?_ a9, keep3 ?_ a10⟩) <;> omega)
        | exact HK0.out.cells)
      (first
        | (go_at_call 38
           refine (valimpl_v (W0 := wc) (HB := vl (by (repeat' (first | (with_reducible exact Below.refl _ _) | (with_reducible refine Below.drew ?_) | (with_reducible refine Below.alloc ?_ ?_ _) | (with_reducible refine Below.setCell ?_ ?_ _) | (with_reducible refine Below.trans ?_ (HBE.out.mono ?_)) | (with_reducible refine Below.trans ?_ (HBD.out.mono ?_)) | (with_reducible refine Below.trans ?_ (HBC.out.mono ?_)) | (with_reducible refine Below.trans ?_ (HBB.out.mono ?_)) | (with_reducible refine Below.trans ?_ (HBA.out.mono ?_)) | (first | omega | (simp; omega) | (simp; done)))))) A r.n _ _ hn r.X r.Y HPr.out).mono ?_
           rintro e wE ⟨rfl, HBE, hE⟩
           have HKE := vl (HK0.out.below HBE.out)
           have SE := HKE.out.cells
           rw [HKl.out])
        | (go_at_call 41
           refine (passimpl_v (W0 := wc) (HB := vl (by (repeat' (first | (with_reducible exact Below.refl _ _) | (with_reducible refine Below.drew ?_) | (with_reducible refine Below.alloc ?_ ?_ _) | (with_reducible refine Below.setCell ?_ ?_ _) | (with_reducible refine Below.trans ?_ (HBE.out.mono ?_)) | (with_reducible refine Below.trans ?_ (HBD.out.mono ?_)) | (with_reducible refine Below.trans ?_ (HBC.out.mono ?_)) | (with_reducible refine Below.trans ?_ (HBB.out.mono ?_)) | (with_reducible refine Below.trans ?_ (HBA.out.mono ?_)) | (first | omega | (simp; omega) | (simp; done)))))) r t _ _ _ _ _ _ _ _ (letF r t V) (letK r V) hn hm hn' hm' hkv HPr.out HDr.out HPt.out HDt.out).mono ?_
           rintro e wZ ⟨⟨A1, c1, D1, d1, g1, g2, A2, c2, D2, d2, g3, g4, S, M, hS, rfl, hcd, hcd2, HO, HO2, hSM, hMZ⟩, HBZ, hZ⟩
           have HKZ := vl (HK0.out.below HBZ.out)
           have hSl := HKZ.out.lt
           have hSs := hZ.size
           have hWl := HK0.out.lt
           have hSg : w.heap.size + 1 + 1 + 1 + 1 + 1 ≤ S := by rw [hS]; first | (have := HBE.out.size; omega) | (have := HBE.out.size; simp; omega) | (have := HBD.out.size; omega) | (have := HBD.out.size; simp; omega) | omega | (simp; omega)
           have SZ := HKZ.out.cells
           obtain ⟨p0, p1, p2⟩ := HKZ.out.u.at
           obtain ⟨p3, p4, p5⟩ := HKZ.out.v.at
           obtain ⟨s0, s1, s2⟩ := HKZ.out.u.free
           obtain ⟨s3, s4, s5⟩ := HKZ.out.v.free))
    all_goals
      go_wp2
      refine bodyPost_ret (v := .tuple #[.agg #[.slice A1 (pass1 r t (letF r t V) (letK r V)).n c1, .int .i64 (pass1 r t (letF r t V) (letK r V)).v, .slice D1 (pass1 r t (letF r t V) (letK r V)).m d1], .agg #[.slice A2 (pass2 r t (letF r t V) (letK r V)).n c2, .int .i64 (pass2 r t (letF r t V) (letK r V)).v, .slice D2 (pass2 r t (letF r t V) (letK r V)).m d2], .int .i64 (passN r t (letF r t V) (letK r V))]) (by simp [results, Try.results15, go_sem, p0, p1, p2, p3, p4, p5]) rfl ?_
      have hfin := end_rri (c := c1) (c' := c2) (p := w.heap.size + 1 + 1 + 1) (q := w.heap.size + 1 + 1 + 1 + 1) (u0 := .slice A1 (pass1 r t (letF r t V) (letK r V)).n c1) (u1 := .int .i64 (pass1 r t (letF r t V) (letK r V)).v) (u2 := .slice D1 (pass1 r t (letF r t V) (letK r V)).m d1) (u3 := .slice A2 (pass2 r t (letF r t V) (letK r V)).n c2) (u4 := .int .i64 (pass2 r t (letF r t V) (letK r V)).v) (u5 := .slice D2 (pass2 r t (letF r t V) (letK r V)).m d2) (k := (passN r t (letF r t V) (letK r V))) HKZ.out.b HO.out HO2.out (by omega) (by omega) hSM (Nat.le_refl _) (Nat.le_refl _) hcd hcd2 hMZ
      first
        | exact hfin
        | exact ⟨hfin.1, hfin.2.drew⟩
end Go.Proofs.Ytabdbpkolmlpeaa.C1
