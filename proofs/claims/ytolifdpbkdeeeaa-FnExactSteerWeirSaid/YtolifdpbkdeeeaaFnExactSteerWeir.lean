/-
  For every input the Go function 'laws.FnExactSteerWeir' returns true, and each argument reads afterwards as it read before. No further condition.
-/
import Derived.Test.YtolifdpbkdeeeaaWr9
import Derived.Test.YtolifdpbkdeeeaaOpenW
import Derived.Deep.DeepCutAuto
import Derived.Test.YtolifdpbkdeeeaaLift
import Derived.Test.YtolifdpbkdeeeaaOpen
import Derived.ChangeMaps5
namespace Go.Proofs.Ytolifdpbkdeeeaa.fnExactSteerWeir
open Go.Proofs.Ytolifdpbkdeeeaa.C1 Go.Proofs.Ytolifdpbkdeeeaa.Lift Go.Proofs.Ytolifdpbkdeeeaa.Opened
open Go.ChangeShapes Go.WideShapes Go.ChangeAt Go.RowKit Go.ChangeMaps
set_option linter.unusedVariables false

section
variable {W0 w : World} {HB : Hid (Below W0.heap.size W0 w)}
include HB
theorem toWeir_h2 (V : Wr) : Calls Try.prog 52 #[.agg #[.int .i64 V.g, .int .i64 V.o, .int .i64 V.s, .int .i64 V.k, .int .i64 V.w]] w fun e w' => e = .returned (.agg #[.int .i64 V.g, .int .i64 V.o, .int .i64 V.s, .int .i64 V.k, .int .i64 V.w]) ∧ Hid (Below W0.heap.size W0 w') ∧ Below w.heap.size w w' :=
  (toWeir V w).mono fun e w' ⟨h1, h2⟩ => ⟨h1, Lib.hid (HB.out.trans (h2.mono HB.out.size)), h2⟩
theorem toRule_h2 (U : Ru) : Calls Try.prog 58 #[.agg #[.int .i64 U.l, .int .i64 U.h, .int .i64 U.f]] w fun e w' => e = .returned (.agg #[.int .i64 U.l, .int .i64 U.h, .int .i64 U.f]) ∧ Hid (Below W0.heap.size W0 w') ∧ Below w.heap.size w w' :=
  (toRule U w).mono fun e w' ⟨h1, h2⟩ => ⟨h1, Lib.hid (HB.out.trans (h2.mono HB.out.size)), h2⟩
theorem steer_h2_spec (V : Wr) (U : Ru) (a b c : Int) {R : Wr} (HR : Hid (steerW V U a b c = R)) : Calls Try.prog 60 #[.agg #[.int .i64 V.g, .int .i64 V.o, .int .i64 V.s, .int .i64 V.k, .int .i64 V.w], .agg #[.int .i64 U.l, .int .i64 U.h, .int .i64 U.f], .int .i64 a, .int .i64 b, .int .i64 c] w fun e w' => e = .returned (.agg #[.int .i64 R.g, .int .i64 R.o, .int .i64 R.s, .int .i64 R.k, .int .i64 R.w]) ∧ Hid (Below W0.heap.size W0 w') ∧ Below w.heap.size w w' :=
  (steer_spec V U a b c w).mono fun e w' ⟨h1, h2⟩ => ⟨by rw [HR.out] at h1; exact h1, Lib.hid (HB.out.trans (h2.mono HB.out.size)), h2⟩
theorem steer_h2_impl (V : Wr) (U : Ru) (a b c : Int) {R : Wr} (HR : Hid (steerW V U a b c = R)) : Calls Try.prog 41 #[.agg #[.int .i64 V.g, .int .i64 V.o, .int .i64 V.s, .int .i64 V.k, .int .i64 V.w], .agg #[.int .i64 U.l, .int .i64 U.h, .int .i64 U.f], .int .i64 a, .int .i64 b, .int .i64 c] w fun e w' => e = .returned (.agg #[.int .i64 R.g, .int .i64 R.o, .int .i64 R.s, .int .i64 R.k, .int .i64 R.w]) ∧ Hid (Below W0.heap.size W0 w') ∧ Below w.heap.size w w' :=
  (steer_impl V U a b c w).mono fun e w' ⟨h1, h2⟩ => ⟨by rw [HR.out] at h1; exact h1, Lib.hid (HB.out.trans (h2.mono HB.out.size)), h2⟩
end
theorem cell_past {w : World} {a : Addr} {v : Value} (o : Obj) (h : w.cell? a = some v) : (w.alloc o).cell? a = some v :=
  ((Below.refl w.heap.size w).alloc (Nat.le_refl _) o).cell (World.block_lt_of_cell? _ _ h) |>.trans h
/-- The law's own words for what lies in memory behind a statement. -/
def Kept (w wx : World) (V0 : Wr) (U0 : Ru) : Prop := Box5 wx w.heap.size (.int .i64 V0.g) (.int .i64 V0.o) (.int .i64 V0.s) (.int .i64 V0.k) (.int .i64 V0.w) 69 ∧ Box wx (w.heap.size + 1) (.int .i64 U0.l) (.int .i64 U0.h) (.int .i64 U0.f) 76 ∧ Below w.heap.size w wx
theorem Kept.below {w wx wy : World} {V0 : Wr} {U0 : Ru} (h : Kept w wx V0 U0) (hb : Below wx.heap.size wx wy) : Kept w wy V0 U0 := ⟨h.1.below hb, h.2.1.below hb, h.2.2.trans (hb.mono h.2.2.size)⟩
theorem Kept.cells {w wx : World} {V0 : Wr} {U0 : Ru} (h : Kept w wx V0 U0) : wx.cell? ⟨w.heap.size, 0, none⟩ = some (.int .i64 V0.g) ∧ wx.cell? ⟨w.heap.size, 1, none⟩ = some (.int .i64 V0.o) ∧ wx.cell? ⟨w.heap.size, 2, none⟩ = some (.int .i64 V0.s) ∧ wx.cell? ⟨w.heap.size, 3, none⟩ = some (.int .i64 V0.k) ∧ wx.cell? ⟨w.heap.size, 4, none⟩ = some (.int .i64 V0.w) ∧ wx.cell? ⟨w.heap.size + 1, 0, none⟩ = some (.int .i64 U0.l) ∧ wx.cell? ⟨w.heap.size + 1, 1, none⟩ = some (.int .i64 U0.h) ∧ wx.cell? ⟨w.heap.size + 1, 2, none⟩ = some (.int .i64 U0.f) := by
  obtain ⟨a0, a1, a2, a3, a4⟩ := h.1.at
  obtain ⟨a5, a6, a7⟩ := h.2.1.at
  exact ⟨a0, a1, a2, a3, a4, a5, a6, a7⟩
theorem Kept.past {w wx : World} {V0 : Wr} {U0 : Ru} (h : Kept w wx V0 U0) (o : Obj) : Kept w (wx.alloc o) V0 U0 := ⟨h.1.alloc o, h.2.1.alloc o, h.2.2.alloc h.2.2.size o⟩
theorem Kept.drewI {w wx : World} {V0 : Wr} {U0 : Ru} (h : Kept w wx V0 U0) : Kept w wx.drew V0 U0 := ⟨h.1, h.2.1, h.2.2.drew⟩
theorem Kept.fill {w wx : World} {V0 : Wr} {U0 : Ru} {b : Nat} {u0 u1 u2 u3 u4 : Value} (h : Kept w wx V0 U0) (hb : w.heap.size + 1 < b) : Kept w (((((wx.setCell ⟨b, 0, none⟩ u0).setCell ⟨b, 1, none⟩ u1).setCell ⟨b, 2, none⟩ u2).setCell ⟨b, 3, none⟩ u3).setCell ⟨b, 4, none⟩ u4) V0 U0 := by
  have hl : ∀ j : Nat, w.heap.size ≤ (⟨b, j, none⟩ : Addr).block := fun j => by show w.heap.size ≤ b; omega
  exact ⟨((((h.1.far _ (by omega)).far _ (by omega)).far _ (by omega)).far _ (by omega)).far _ (by omega), ((((h.2.1.far _ (by omega)).far _ (by omega)).far _ (by omega)).far _ (by omega)).far _ (by omega), ((((h.2.2.setCell (hl 0) _).setCell (hl 1) _).setCell (hl 2) _).setCell (hl 3) _).setCell (hl 4) _⟩
theorem Box5.new' {w : World} {b : Nat} {x y z u v : Value} {t : TypeId} (h : b = w.heap.size) : Box5 (w.alloc (.cells #[x, y, z, u, v] t)) b x y z u v t := by subst h; exact Box5.new w x y z u v t
theorem Box5.belowI {w w' : World} {b : Nat} {x y z u v : Value} {t : TypeId} (hb : Below w.heap.size w w') (h : Box5 w b x y z u v t) : Box5 w' b x y z u v t := h.below hb
def WBox (wx : World) (b : Nat) (R : Wr) : Prop := Box5 wx b (.int .i64 R.g) (.int .i64 R.o) (.int .i64 R.s) (.int .i64 R.k) (.int .i64 R.w) 48
theorem WBox.below {w w' : World} {b : Nat} {R : Wr} (h : WBox w b R) (hb : Below w.heap.size w w') : WBox w' b R := Box5.below h hb
theorem WBox.new (w : World) (R : Wr) : WBox (w.alloc (.cells #[.int .i64 R.g, .int .i64 R.o, .int .i64 R.s, .int .i64 R.k, .int .i64 R.w] 48)) w.heap.size R := Box5.new w _ _ _ _ _ _
/-- A box that was made at some time, and then filled. -/
theorem WBox.fill {w : World} {b : Nat} {R : Wr} {v0 v1 v2 v3 v4 : Value} (h : Box5 w b v0 v1 v2 v3 v4 48) : WBox (((((w.setCell ⟨b, 0, none⟩ (.int .i64 R.g)).setCell ⟨b, 1, none⟩ (.int .i64 R.o)).setCell ⟨b, 2, none⟩ (.int .i64 R.s)).setCell ⟨b, 3, none⟩ (.int .i64 R.k)).setCell ⟨b, 4, none⟩ (.int .i64 R.w)) b R := by
  unfold WBox Box5 at *
  simp [World.setCell, Array.getElem?_modify, h]
theorem Box5.drewI {w : World} {b : Nat} {x y z u v : Value} {t : TypeId} (h : Box5 w b x y z u v t) : Box5 w.drew b x y z u v t := h
theorem WBox.past {w : World} {b : Nat} {R : Wr} (h : WBox w b R) (o : Obj) : WBox (w.alloc o) b R := Box5.alloc h o
theorem WBox.far5 {w : World} {b g : Nat} {R : Wr} {u0 u1 u2 u3 u4 : Value} (h : WBox w b R) (hne : b ≠ g) : WBox (((((w.setCell ⟨g, 0, none⟩ u0).setCell ⟨g, 1, none⟩ u1).setCell ⟨g, 2, none⟩ u2).setCell ⟨g, 3, none⟩ u3).setCell ⟨g, 4, none⟩ u4) b R :=
  ((((Box5.far h _ hne).far _ hne).far _ hne).far _ hne).far _ hne
set_option maxHeartbeats 4000000 in
theorem walk (V0 : Wr) (U0 : Ru) (a2 a3 a4 : Int) (w : World) (_ : (Lit.int .i64 a2).wf = true) (_ : (Lit.int .i64 a3).wf = true) (_ : (Lit.int .i64 a4).wf = true) :
    Calls Try.prog 16 #[.agg #[.int .i64 V0.g, .int .i64 V0.o, .int .i64 V0.s, .int .i64 V0.k, .int .i64 V0.w], .agg #[.int .i64 U0.l, .int .i64 U0.h, .int .i64 U0.f], .int .i64 a2, .int .i64 a3, .int .i64 a4] w fun e w' => e = .returned (.bool true) ∧ Below w.heap.size w w' := by
  obtain ⟨R, hR⟩ : ∃ R, steerW V0 U0 a2 a3 a4 = R := ⟨_, rfl⟩
  have HR := Lib.hid hR
  clear hR
  have hu := Box.new (w.alloc (.cells #[.int .i64 V0.g, .int .i64 V0.o, .int .i64 V0.s, .int .i64 V0.k, .int .i64 V0.w] 69)) (.int .i64 U0.l) (.int .i64 U0.h) (.int .i64 U0.f) 76
  simp only [World.size_alloc] at hu
  have HK0 : Hid (Kept w ((w.alloc (.cells #[.int .i64 V0.g, .int .i64 V0.o, .int .i64 V0.s, .int .i64 V0.k, .int .i64 V0.w] 69)).alloc (.cells #[.int .i64 U0.l, .int .i64 U0.h, .int .i64 U0.f] 76)) V0 U0) := Lib.hid ⟨(Box5.new w (.int .i64 V0.g) (.int .i64 V0.o) (.int .i64 V0.s) (.int .i64 V0.k) (.int .i64 V0.w) 69).alloc (.cells #[.int .i64 U0.l, .int .i64 U0.h, .int .i64 U0.f] 76), hu, by (repeat' (first | (with_reducible exact Below.refl _ _) | (with_reducible refine Below.drew ?_) | (with_reducible refine Below.alloc ?_ ?_ _) | (with_reducible refine Below.setCell ?_ ?_ _) | (first | omega | (simp; omega) | (simp; done))))⟩
  clear hu
  go_enter Try.func16, Try.ntmps16
  go_upto_region 1 with fail
  generalize hW : ((w.alloc (.cells #[.int .i64 V0.g, .int .i64 V0.o, .int .i64 V0.s, .int .i64 V0.k, .int .i64 V0.w] 69)).alloc (.cells #[.int .i64 U0.l, .int .i64 U0.h, .int .i64 U0.f] 76)) = W at *
  have qW : w.heap.size + 1 < W.heap.size := HK0.out.2.1.lt
  clear hW
  go_cut [11] (fun s11 wx => ∃ b : Nat, s11 = .pointer (some ⟨b, 0, none⟩) ∧ Hid (WBox wx b R) ∧ Hid (Kept w wx V0 U0))
  case first =>
    have HW := Lib.hid (Below.refl W.heap.size W)
    obtain ⟨x0, x1, x2, x3, x4, v0, v1, v2⟩ := HK0.out.cells
    go_region_held3 (fun w' => w'.cell? ⟨w.heap.size, 0, none⟩ = some (.int .i64 V0.g) ∧ w'.cell? ⟨w.heap.size, 1, none⟩ = some (.int .i64 V0.o) ∧ w'.cell? ⟨w.heap.size, 2, none⟩ = some (.int .i64 V0.s) ∧ w'.cell? ⟨w.heap.size, 3, none⟩ = some (.int .i64 V0.k) ∧ w'.cell? ⟨w.heap.size, 4, none⟩ = some (.int .i64 V0.w) ∧ w'.cell? ⟨w.heap.size + 1, 0, none⟩ = some (.int .i64 U0.l) ∧ w'.cell? ⟨w.heap.size + 1, 1, none⟩ = some (.int .i64 U0.h) ∧ w'.cell? ⟨w.heap.size + 1, 2, none⟩ = some (.int .i64 U0.f))
      (first | (with_reducible assumption) | (with_reducible exact (HKC.out.past _).cells) | (with_reducible exact (HKC.out.past _).drewI.cells) | (with_reducible refine (HKC.out.fill ?_).cells; first | omega | (simp; omega)) | (with_reducible exact (HKB.out.past _).cells) | (with_reducible exact (HKB.out.past _).drewI.cells) | (with_reducible refine (HKB.out.fill ?_).cells; first | omega | (simp; omega)) | (with_reducible exact (HKA.out.past _).cells) | (with_reducible exact (HKA.out.past _).drewI.cells) | (with_reducible refine (HKA.out.fill ?_).cells; first | omega | (simp; omega)) | (with_reducible exact (HK0.out.past _).cells) | (with_reducible exact (HK0.out.past _).drewI.cells) | (with_reducible refine (HK0.out.fill ?_).cells; first | omega | (simp; omega)) | (with_reducible exact HK0.out.cells) | exact HK0.out.cells)
      (first
        | (go_at_call 52
           refine (toWeir_h2 (W0 := W) (HB := Lib.hid (by (repeat' (first | (with_reducible exact Below.refl _ _) | (with_reducible refine Below.drew ?_) | (with_reducible refine Below.alloc ?_ ?_ _) | (with_reducible refine Below.setCell ?_ ?_ _) | (with_reducible refine Below.trans ?_ (HBA.out.mono ?_)) | (with_reducible refine Below.trans ?_ (HBB.out.mono ?_)) | (first | omega | (simp; omega) | (simp; done)))))) V0).mono ?_
           rintro e wA ⟨rfl, HBA, hA⟩
           have HKA := Lib.hid (HK0.out.below HBA.out)
           have SA := HKA.out.cells
           obtain ⟨kA, fA⟩ := bcell hA; have zA := hA.size; (try simp at zA); (try (have uA := HKA.out.1.lt)); (try (have uuA := HKA.out.2.1.lt)); (try (have uWA : W.heap.size < wA.heap.size := by omega)))
        | (go_at_call 58
           refine (toRule_h2 (W0 := W) (HB := Lib.hid (by (repeat' (first | (with_reducible exact Below.refl _ _) | (with_reducible refine Below.drew ?_) | (with_reducible refine Below.alloc ?_ ?_ _) | (with_reducible refine Below.setCell ?_ ?_ _) | (with_reducible refine Below.trans ?_ (HBA.out.mono ?_)) | (with_reducible refine Below.trans ?_ (HBB.out.mono ?_)) | (first | omega | (simp; omega) | (simp; done)))))) U0).mono ?_
           rintro e wB ⟨rfl, HBB, hB⟩
           have HKB := Lib.hid (HK0.out.below HBB.out)
           have SB := HKB.out.cells
           obtain ⟨kB, fB⟩ := bcell hB; have zB := hB.size; (try simp at zB); (try (have uB := HKB.out.1.lt)); (try (have uuB := HKB.out.2.1.lt)); (try (have uWB : W.heap.size < wB.heap.size := by omega)); (try (have uBA : wA.heap.size < wB.heap.size := by omega)))
        | (go_at_call 60
           refine (steer_h2_spec (W0 := W) (HB := Lib.hid (by (repeat' (first | (with_reducible exact Below.refl _ _) | (with_reducible refine Below.drew ?_) | (with_reducible refine Below.alloc ?_ ?_ _) | (with_reducible refine Below.setCell ?_ ?_ _) | (with_reducible refine Below.trans ?_ (HBA.out.mono ?_)) | (with_reducible refine Below.trans ?_ (HBB.out.mono ?_)) | (first | omega | (simp; omega) | (simp; done)))))) V0 U0 _ _ _ HR).mono ?_
           rintro e wC ⟨rfl, HBC, hC⟩
           have HKC := Lib.hid (HK0.out.below HBC.out)
           have SC := HKC.out.cells
           obtain ⟨kC, fC⟩ := bcell hC; have zC := hC.size; (try simp at zC); (try (have uC := HKC.out.1.lt)); (try (have uuC := HKC.out.2.1.lt)); (try (have uWC : W.heap.size < wC.heap.size := by omega)); (try (have uCA : wA.heap.size < wC.heap.size := by omega)); (try (have uCB : wB.heap.size < wC.heap.size := by omega))))
    all_goals
      go_wp2_with fail
      go_meet
      refine ⟨_, rfl, Lib.hid ?_, Lib.hid ?_⟩
      · first
          | (with_reducible exact WBox.new _ _)
          | (with_reducible refine WBox.fill (v0 := .int .i64 0) (v1 := .int .i64 0) (v2 := .int .i64 0) (v3 := .int .i64 0) (v4 := .int .i64 0) ?_
             repeat' (first | (with_reducible apply Box5.drewI) | ((with_reducible apply Box5.new'); · (first | rfl | (simp; done))) | (with_reducible apply Box5.belowI hC) | (with_reducible apply Box5.belowI hB) | (with_reducible apply Box5.belowI hA)))
      · first
          | (with_reducible exact HKC.out.past _)
          | (with_reducible refine HKC.out.fill ?_; first | omega | (simp; omega))
  case rest =>
    obtain ⟨b, rfl, HG, HK⟩ := hcut
    clear HK0 qW
    have qW : w.heap.size + 1 < wc.heap.size := HK.out.2.1.lt
    have qb : b < wc.heap.size := Box5.lt HG.out
    go_upto_region 2 with fail
    go_cut [12] (fun s12 wx => ∃ b2 : Nat, s12 = .pointer (some ⟨b2, 0, none⟩) ∧ Hid (WBox wx b2 R) ∧ Hid (WBox wx b R) ∧ Hid (Kept w wx V0 U0))
    case first =>
      have HW := Lib.hid (Below.refl wc.heap.size wc)
      obtain ⟨x0, x1, x2, x3, x4, v0, v1, v2⟩ := HK.out.cells
      go_region_held3 (fun w' => w'.cell? ⟨w.heap.size, 0, none⟩ = some (.int .i64 V0.g) ∧ w'.cell? ⟨w.heap.size, 1, none⟩ = some (.int .i64 V0.o) ∧ w'.cell? ⟨w.heap.size, 2, none⟩ = some (.int .i64 V0.s) ∧ w'.cell? ⟨w.heap.size, 3, none⟩ = some (.int .i64 V0.k) ∧ w'.cell? ⟨w.heap.size, 4, none⟩ = some (.int .i64 V0.w) ∧ w'.cell? ⟨w.heap.size + 1, 0, none⟩ = some (.int .i64 U0.l) ∧ w'.cell? ⟨w.heap.size + 1, 1, none⟩ = some (.int .i64 U0.h) ∧ w'.cell? ⟨w.heap.size + 1, 2, none⟩ = some (.int .i64 U0.f))
        (first | (with_reducible assumption) | (with_reducible exact (HKC.out.past _).cells) | (with_reducible exact (HKC.out.past _).drewI.cells) | (with_reducible refine (HKC.out.fill ?_).cells; first | omega | (simp; omega)) | (with_reducible exact (HKB.out.past _).cells) | (with_reducible exact (HKB.out.past _).drewI.cells) | (with_reducible refine (HKB.out.fill ?_).cells; first | omega | (simp; omega)) | (with_reducible exact (HKA.out.past _).cells) | (with_reducible exact (HKA.out.past _).drewI.cells) | (with_reducible refine (HKA.out.fill ?_).cells; first | omega | (simp; omega)) | (with_reducible exact (HK.out.past _).cells) | (with_reducible exact (HK.out.past _).drewI.cells) | (with_reducible refine (HK.out.fill ?_).cells; first | omega | (simp; omega)) | (with_reducible exact HK.out.cells) | exact HK.out.cells)
        (first
          | (go_at_call 52
             refine (toWeir_h2 (W0 := wc) (HB := Lib.hid (by (repeat' (first | (with_reducible exact Below.refl _ _) | (with_reducible refine Below.drew ?_) | (with_reducible refine Below.alloc ?_ ?_ _) | (with_reducible refine Below.setCell ?_ ?_ _) | (with_reducible refine Below.trans ?_ (HBA.out.mono ?_)) | (with_reducible refine Below.trans ?_ (HBB.out.mono ?_)) | (first | omega | (simp; omega) | (simp; done)))))) V0).mono ?_
             rintro e wA ⟨rfl, HBA, hA⟩
             have HKA := Lib.hid (HK.out.below HBA.out)
             have SA := HKA.out.cells
             obtain ⟨kA, fA⟩ := bcell hA; have zA := hA.size; (try simp at zA); (try (have uA := HKA.out.1.lt)); (try (have uuA := HKA.out.2.1.lt)); (try (have uWA : wc.heap.size < wA.heap.size := by omega)))
          | (go_at_call 58
             refine (toRule_h2 (W0 := wc) (HB := Lib.hid (by (repeat' (first | (with_reducible exact Below.refl _ _) | (with_reducible refine Below.drew ?_) | (with_reducible refine Below.alloc ?_ ?_ _) | (with_reducible refine Below.setCell ?_ ?_ _) | (with_reducible refine Below.trans ?_ (HBA.out.mono ?_)) | (with_reducible refine Below.trans ?_ (HBB.out.mono ?_)) | (first | omega | (simp; omega) | (simp; done)))))) U0).mono ?_
             rintro e wB ⟨rfl, HBB, hB⟩
             have HKB := Lib.hid (HK.out.below HBB.out)
             have SB := HKB.out.cells
             obtain ⟨kB, fB⟩ := bcell hB; have zB := hB.size; (try simp at zB); (try (have uB := HKB.out.1.lt)); (try (have uuB := HKB.out.2.1.lt)); (try (have uWB : wc.heap.size < wB.heap.size := by omega)); (try (have uBA : wA.heap.size < wB.heap.size := by omega)))
          | (go_at_call 41
             refine (steer_h2_impl (W0 := wc) (HB := Lib.hid (by (repeat' (first | (with_reducible exact Below.refl _ _) | (with_reducible refine Below.drew ?_) | (with_reducible refine Below.alloc ?_ ?_ _) | (with_reducible refine Below.setCell ?_ ?_ _) | (with_reducible refine Below.trans ?_ (HBA.out.mono ?_)) | (with_reducible refine Below.trans ?_ (HBB.out.mono ?_)) | (first | omega | (simp; omega) | (simp; done)))))) V0 U0 _ _ _ HR).mono ?_
             rintro e wC ⟨rfl, HBC, hC⟩
             have HKC := Lib.hid (HK.out.below HBC.out)
             have SC := HKC.out.cells
             obtain ⟨kC, fC⟩ := bcell hC; have zC := hC.size; (try simp at zC); (try (have uC := HKC.out.1.lt)); (try (have uuC := HKC.out.2.1.lt)); (try (have uWC : wc.heap.size < wC.heap.size := by omega)); (try (have uCA : wA.heap.size < wC.heap.size := by omega)); (try (have uCB : wB.heap.size < wC.heap.size := by omega))))
      all_goals
        go_wp2_with fail
        go_meet
        refine ⟨_, rfl, Lib.hid ?_, Lib.hid ?_, Lib.hid ?_⟩
        · first
            | (with_reducible exact WBox.new _ _)
            | (with_reducible refine WBox.fill (v0 := .int .i64 0) (v1 := .int .i64 0) (v2 := .int .i64 0) (v3 := .int .i64 0) (v4 := .int .i64 0) ?_
               repeat' (first | (with_reducible apply Box5.drewI) | ((with_reducible apply Box5.new'); · (first | rfl | (simp; done))) | (with_reducible apply Box5.belowI hC) | (with_reducible apply Box5.belowI hB) | (with_reducible apply Box5.belowI hA)))
        · have hG := HG.out.below HBC.out
          first
            | (with_reducible exact hG.past _)
            | (with_reducible refine hG.far5 ?_; first | omega | (simp; omega))
        · first
            | (with_reducible exact HKC.out.past _)
            | (with_reducible refine HKC.out.fill ?_; first | omega | (simp; omega))
    case rest =>
      obtain ⟨b2, rfl, HG2, HG1, HK2⟩ := hcut
      obtain ⟨x0, x1, x2, x3, x4⟩ := Box5.at HG1.out
      obtain ⟨y0, y1, y2, y3, y4⟩ := Box5.at HG2.out
      have HB9 := Lib.hid HK2.out.2.2
      clear HG HK HG1 HG2 HK2 qW qb
      go_wp2_with fail
      refine (eqWeir R _).mono ?_
      rintro e w9 ⟨rfl, hb9⟩
      have HB10 := Lib.hid (HB9.out.trans (hb9.mono HB9.out.size))
      clear hb9 x0 x1 x2 x3 x4 y0 y1 y2 y3 y4
      go_wp2
      go_ret
      exact ⟨rfl, HB10.out⟩

theorem parOk : Try.f16.params.toList.all (fun t => Try.prog.readableRec t && decide (t < Try.prog.types.size)) = true := by kernel_rfl
set_option maxRecDepth 100000 in
theorem lifted (os : Os) (started : os.Started) (H : Type) (enc : TypeId × Value → H) :
    ReturnsInHanded {} Try.checked os 16 .any (Rows.fnExactSteerWeirSpec.pre6 enc Try.prog Try.f16 Rows.fnExactSteerWeirRow.domain false) (Rows.fnExactSteerWeirSpec.post enc Try.prog Try.f16 false true false false) := by
  refine law_lifted (C := Try.checked) own started (by kernel_rfl) Try.func16 laid (fun t ht => by
      have h := List.all_eq_true.1 parOk t ht
      rw [Bool.and_eq_true] at h
      exact ⟨h.1, of_decide_eq_true h.2⟩) rfl Try.underlying4 rfl
    (fun xs hx => by
      rw [show Try.f16.params.toList.length = 5 from by rw [Try.params16]; rfl] at hx
      match xs, hx with
      | [d0, d1, d2, d3, d4], _ => rfl)
    (ChangeSpec.witness6 (enc := enc) (C := Try.checked) false ⟨#[], #[.agg #[.int .i64 0, .int .i64 0, .int .i64 0, .int .i64 0, .int .i64 0], .agg #[.int .i64 0, .int .i64 0, .int .i64 0], .int .i64 0, .int .i64 0, .int .i64 0], []⟩ 8 (by kernel_rfl) (by kernel_rfl) (by kernel_rfl) (by kernel_rfl)) ?_
  intro W base args ds p hval0 hA0 _
  have hval : ∀ (j : Nat) t v, Try.f16.params[j]? = some t → args[j]? = some v → Value.okWide Try.prog W .any base t v := hval0
  have hA : DataW.TrodAll enc Try.prog W 0 (fun _ => true) true Try.f16.params.toList args.toList ds p := hA0
  clear hA0 hval0
  rw [Try.params16] at hA hval
  obtain ⟨v0, vs0, d0, ds0, p0, q0, hargs, rfl, rfl, h0, r0⟩ := trodAll_cons hA
  obtain ⟨v1, vs1, d1, ds1, p1, q1, rfl, rfl, rfl, h1, r1⟩ := trodAll_cons r0
  obtain ⟨v2, vs2, d2, ds2, p2, q2, rfl, rfl, rfl, h2, r2⟩ := trodAll_cons r1
  obtain ⟨v3, vs3, d3, ds3, p3, q3, rfl, rfl, rfl, h3, r3⟩ := trodAll_cons r2
  obtain ⟨v4, vs4, d4, ds4, p4, q4, rfl, rfl, rfl, h4, r4⟩ := trodAll_cons r3
  obtain ⟨rfl, rfl, rfl⟩ := trodAll_nil r4
  obtain rfl : args = #[v0, v1, v2, v3, v4] := by cases args; simp_all
  obtain ⟨V0, rfl⟩ := open_weir (hval 0 69 _ rfl rfl) h0
  obtain ⟨U1, rfl⟩ := open_rule (hval 1 76 _ rfl rfl) h1
  obtain ⟨a2, rfl, rfl, _, x2⟩ := open_int Try.underlying3 (hval 2 3 _ rfl rfl) h2
  obtain ⟨a3, rfl, rfl, _, x3⟩ := open_int Try.underlying3 (hval 3 3 _ rfl rfl) h3
  obtain ⟨a4, rfl, rfl, _, x4⟩ := open_int Try.underlying3 (hval 4 3 _ rfl rfl) h4
  exact walk V0 U1 a2 a3 a4 W x2 x3 x4

/-- The statement. -/
theorem proved : Rows.FnExactSteerWeirSaid :=
  OpenClaim.holds_of_wide 16 Try.f16 rfl rfl rfl rfl rfl rfl rfl ⟨rfl, rfl, rfl, rfl, rfl⟩ rfl rfl rfl rfl rfl (by kernel_rfl) Try.func16 (by kernel_rfl)
    (of_decide_eq_true (by kernel_rfl)) (by unfold Func.isWrapper; first | (rw [if_pos (by decide +kernel)]; kernel_rfl) | (rw [if_neg (by decide +kernel)]; exact ⟨rfl, rfl⟩))
    (fun os started H enc _ => lifted os started H enc)
#print axioms proved
end Go.Proofs.Ytolifdpbkdeeeaa.fnExactSteerWeir
