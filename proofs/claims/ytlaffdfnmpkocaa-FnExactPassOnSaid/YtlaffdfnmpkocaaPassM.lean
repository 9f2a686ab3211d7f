/- PassOn: what it gives; what lies in memory on its way. -/
import Derived.Test.YtlaffdfnmpkocaaRchK
import Derived.Deep.DeepCutAuto
namespace Go.Proofs.Ytlaffdfnmpkocaa.C1
open Go.ChangeShapes Go.WideShapes Go.ChangeAt Go.RowKit
set_option linter.unusedVariables false

def passM (t : Rc) (a : Int) : Int := min a (spaceR t)
def passN (r t : Rc) (a k : Int) : Int := takeA r (passM t a) k
def pass1 (r t : Rc) (a k : Int) : Rc := takeR r (passM t a) k
def pass2 (r t : Rc) (a k : Int) : Rc := sendR t (passN r t a k)
theorem addL_zero (r : Rc) : addL r 0 = r := by
  unfold addL
  split
  · simp
  · cases r; simp
theorem sendR_zero (r : Rc) : sendR r 0 = r := by
  unfold sendR
  split
  · exact addL_zero r
  · rfl
theorem takeA_zero (r : Rc) (k : Int) : takeA r 0 k = 0 := by
  unfold takeA
  split
  · split
    · rfl
    · split <;> omega
  · rfl
theorem pass_zero {r t : Rc} {a k : Int} (h : passN r t a k = 0) : pass1 r t a k = r ∧ pass2 r t a k = t := by
  unfold pass1 pass2
  rw [h]
  refine ⟨?_, sendR_zero t⟩
  unfold takeR
  rw [show takeA r (passM t a) k = 0 from h, Int.sub_zero]
theorem pass_no {r t : Rc} {a k : Int} (h : rOk r = false ∨ rOk t = false ∨ a < 0 ∨ k < 0) : passN r t a k = 0 := by
  unfold passN passM
  have hs := (spaceR_bd t).1
  rcases h with h | h | h | h
  · exact takeA_no (by unfold takeB; rw [h]; rfl)
  · rw [spaceR_no h]
    rcases Int.lt_or_le a 0 with ha | ha
    · exact takeA_no (by unfold takeB; rw [show decide (0 ≤ min a 0) = false from decide_eq_false (by omega), Bool.false_and, Bool.and_false])
    · rw [show min a 0 = 0 by omega]; exact takeA_zero r k
  · exact takeA_no (by unfold takeB; rw [show decide (0 ≤ min a (spaceR t)) = false from decide_eq_false (by omega), Bool.false_and, Bool.and_false])
  · exact takeA_no (by unfold takeB; rw [show decide (0 ≤ k) = false from decide_eq_false (by omega), Bool.and_false, Bool.and_false])
theorem pass1_n (r t : Rc) (a k : Int) : (pass1 r t a k).n = r.n ∧ (pass1 r t a k).m = r.m := ⟨rfl, rfl⟩
theorem pass2_n (r t : Rc) (a k : Int) : (pass2 r t a k).n = t.n ∧ (pass2 r t a k).m = t.m := sendR_n t _

/-- What a function that gives two reaches and an integer leaves: each reach in memory of its own, all else as it was. -/
def GivesRRI (w : World) (r t : Rc) (k : Int) (e : Ending) (w' : World) : Prop :=
  (∃ A c D d g1 g2 A' c' D' d' g3 g4 M, e = .returned (.tuple #[.agg #[.slice A r.n c, .int .i64 r.v, .slice D r.m d], .agg #[.slice A' t.n c', .int .i64 t.v, .slice D' t.m d'], .int .i64 k]) ∧ r.m ≤ d ∧ t.m ≤ d' ∧
    Owned w' w.heap.size M A D r g1 g2 ∧ Owned w' M w'.heap.size A' D' t g3 g4 ∧ w.heap.size ≤ M ∧ M ≤ w'.heap.size) ∧ Below w.heap.size w w'

/-- The boxes of two reaches that came in, and of two that go out. -/
structure Four (w wx : World) (a0 a1 a2 b0 b1 b2 : Value) : Prop where
  x : Box wx w.heap.size a0 a1 a2 29
  y : Box wx (w.heap.size + 1) b0 b1 b2 29
  u : Box wx (w.heap.size + 1 + 1) (.slice none 0 0) (.int .i64 0) (.slice none 0 0) 29
  v : Box wx (w.heap.size + 1 + 1 + 1) (.slice none 0 0) (.int .i64 0) (.slice none 0 0) 29
  b : Below w.heap.size w wx
section
variable {w wx wy : World} {a0 a1 a2 b0 b1 b2 : Value}
theorem Four.new (w : World) (a0 a1 a2 b0 b1 b2 : Value) : Four w ((((w.alloc (.cells #[a0, a1, a2] 29)).alloc (.cells #[b0, b1, b2] 29)).alloc (.cells #[.slice none 0 0, .int .i64 0, .slice none 0 0] 29)).alloc (.cells #[.slice none 0 0, .int .i64 0, .slice none 0 0] 29)) a0 a1 a2 b0 b1 b2 := by
  have h1 := Box.new (w.alloc (.cells #[a0, a1, a2] 29)) b0 b1 b2 29
  have h2 := Box.new ((w.alloc (.cells #[a0, a1, a2] 29)).alloc (.cells #[b0, b1, b2] 29)) (.slice none 0 0) (.int .i64 0) (.slice none 0 0) 29
  have h3 := Box.new (((w.alloc (.cells #[a0, a1, a2] 29)).alloc (.cells #[b0, b1, b2] 29)).alloc (.cells #[.slice none 0 0, .int .i64 0, .slice none 0 0] 29)) (.slice none 0 0) (.int .i64 0) (.slice none 0 0) 29
  simp only [World.size_alloc] at h1 h2 h3
  exact ⟨(((Box.new w a0 a1 a2 29).alloc _).alloc _).alloc _, (h1.alloc _).alloc _, h2.alloc _, h3, ((((Below.refl _ _).alloc (Nat.le_refl _) _).alloc (by simp) _).alloc (by simp; omega) _).alloc (by simp; omega) _⟩
theorem Four.lt (h : Four w wx a0 a1 a2 b0 b1 b2) : w.heap.size + 1 + 1 + 1 < wx.heap.size := h.v.lt
theorem Four.below (h : Four w wx a0 a1 a2 b0 b1 b2) (hb : Below wx.heap.size wx wy) : Four w wy a0 a1 a2 b0 b1 b2 := ⟨h.x.below hb, h.y.below hb, h.u.below hb, h.v.below hb, h.b.trans (hb.mono h.b.size)⟩
theorem Four.past (h : Four w wx a0 a1 a2 b0 b1 b2) (o : Obj) : Four w (wx.alloc o) a0 a1 a2 b0 b1 b2 := h.below ((Below.refl _ _).alloc (Nat.le_refl _) o)
theorem Four.drewI (h : Four w wx a0 a1 a2 b0 b1 b2) : Four w wx.drew a0 a1 a2 b0 b1 b2 := ⟨h.x, h.y, h.u, h.v, h.b.drew⟩
theorem Four.fill {g : Nat} {u0 u1 u2 : Value} (h : Four w wx a0 a1 a2 b0 b1 b2) (hg : w.heap.size + 1 + 1 + 1 < g) : Four w (((wx.setCell ⟨g, 0, none⟩ u0).setCell ⟨g, 1, none⟩ u1).setCell ⟨g, 2, none⟩ u2) a0 a1 a2 b0 b1 b2 := by
  have hl : ∀ j : Nat, w.heap.size ≤ (⟨g, j, none⟩ : Addr).block := fun j => by show w.heap.size ≤ g; omega
  exact ⟨((h.x.far _ (by omega)).far _ (by omega)).far _ (by omega), ((h.y.far _ (by omega)).far _ (by omega)).far _ (by omega), ((h.u.far _ (by omega)).far _ (by omega)).far _ (by omega), ((h.v.far _ (by omega)).far _ (by omega)).far _ (by omega), ((h.b.setCell (hl 0) _).setCell (hl 1) _).setCell (hl 2) _⟩
theorem Four.cells (h : Four w wx a0 a1 a2 b0 b1 b2) : wx.cell? ⟨w.heap.size, 0, none⟩ = some a0 ∧ wx.cell? ⟨w.heap.size, 1, none⟩ = some a1 ∧ wx.cell? ⟨w.heap.size, 2, none⟩ = some a2 ∧
    wx.cell? ⟨w.heap.size + 1, 0, none⟩ = some b0 ∧ wx.cell? ⟨w.heap.size + 1, 1, none⟩ = some b1 ∧ wx.cell? ⟨w.heap.size + 1, 2, none⟩ = some b2 := by
  obtain ⟨x0, x1, x2⟩ := h.x.at
  obtain ⟨y0, y1, y2⟩ := h.y.at
  exact ⟨x0, x1, x2, y0, y1, y2⟩
end
/-- A box that was made at some time, and then filled. -/
theorem Box.fill {w : World} {b : Nat} {x y z u0 u1 u2 : Value} {t : TypeId} (h : Box w b x y z t) : Box (((w.setCell ⟨b, 0, none⟩ u0).setCell ⟨b, 1, none⟩ u1).setCell ⟨b, 2, none⟩ u2) b u0 u1 u2 t := ((h.set0 u0).set1 u1).set2 u2
theorem touch3 {w : World} {g : Nat} (u0 u1 u2 : Value) : Touch w (((w.setCell ⟨g, 0, none⟩ u0).setCell ⟨g, 1, none⟩ u1).setCell ⟨g, 2, none⟩ u2) g (g + 1) :=
  (((Touch.refl w g (g + 1)).set g 0 u0 (Nat.le_refl _) (Nat.lt_succ_self _)).set g 1 u1 (Nat.le_refl _) (Nat.lt_succ_self _)).set g 2 u2 (Nat.le_refl _) (Nat.lt_succ_self _)
theorem Owned.fill {w : World} {B L g1 g2 g : Nat} {A D : Option Addr} {r : Rc} {u0 u1 u2 : Value} (h : Owned w B L A D r g1 g2) (hg : g < B ∨ L ≤ g) : Owned (((w.setCell ⟨g, 0, none⟩ u0).setCell ⟨g, 1, none⟩ u1).setCell ⟨g, 2, none⟩ u2) B L A D r g1 g2 :=
  h.touch (touch3 u0 u1 u2) (by omega)
theorem Owned.past {w : World} {B L g1 g2 : Nat} {A D : Option Addr} {r : Rc} (h : Owned w B L A D r g1 g2) (o : Obj) : Owned (w.alloc o) B L A D r g1 g2 := h.below ((Below.refl _ _).alloc (Nat.le_refl _) o)
/-- A reach that was put into a box of the call's own. -/
def Put (w wx : World) (b : Nat) (r : Rc) : Prop := ∃ A c D d g1 g2, Box wx b (.slice A r.n c) (.int .i64 r.v) (.slice D r.m d) 29 ∧ r.m ≤ d ∧ Owned wx (w.heap.size + 1 + 1 + 1 + 1) wx.heap.size A D r g1 g2 ∧ w.heap.size + 1 + 1 + 1 < b
end Go.Proofs.Ytlaffdfnmpkocaa.C1
