/- Exact laws of functions of two reaches: the arguments' boxes, reaches that were put into boxes, and what keeps them. -/
import Derived.Test.YtlaffdfnmpkocaaPassS
import Derived.Test.YtlaffdfnmpkocaaOpenR
namespace Go.Proofs.Ytlaffdfnmpkocaa.C1
open Go.ChangeShapes Go.WideShapes Go.ChangeAt Go.RowKit
set_option linter.unusedVariables false

/-- A reach whose slices lie in blocks of their own from B on and below L. -/
def OwnE (w : World) (B L : Nat) (A D : Option Addr) (r : Rc) : Prop := ∃ g1 g2, Owned w B L A D r g1 g2
section
variable {w w' : World} {B L : Nat} {A D : Option Addr} {r : Rc}
theorem OwnE.below (h : OwnE w B L A D r) (hb : Below w.heap.size w w') : OwnE w' B L A D r := by obtain ⟨g1, g2, h⟩ := h; exact ⟨g1, g2, h.below hb⟩
theorem OwnE.touch {B' L' : Nat} (h : OwnE w B L A D r) (t : Touch w w' B' L') (hd : L ≤ B' ∨ L' ≤ B) : OwnE w' B L A D r := by obtain ⟨g1, g2, h⟩ := h; exact ⟨g1, g2, h.touch t hd⟩
theorem OwnE.wide {B' L' : Nat} (h : OwnE w B L A D r) (hB : B' ≤ B) (hL : L ≤ L') : OwnE w B' L' A D r := by obtain ⟨g1, g2, h⟩ := h; exact ⟨g1, g2, h.wide hB hL⟩
theorem OwnE.past (h : OwnE w B L A D r) (o : Obj) : OwnE (w.alloc o) B L A D r := h.below ((Below.refl _ _).alloc (Nat.le_refl _) o)
theorem OwnE.drewI (h : OwnE w B L A D r) : OwnE w.drew B L A D r := h
theorem OwnE.fill {g : Nat} {u0 u1 u2 : Value} (h : OwnE w B L A D r) (hg : g < B ∨ L ≤ g) : OwnE (((w.setCell ⟨g, 0, none⟩ u0).setCell ⟨g, 1, none⟩ u1).setCell ⟨g, 2, none⟩ u2) B L A D r := by
  obtain ⟨g1, g2, h⟩ := h; exact ⟨g1, g2, h.fill hg⟩
theorem OwnE.pts (h : OwnE w B L A D r) : Pts w A r.n r.X r.Y := by obtain ⟨g1, g2, h⟩ := h; exact h.pts
theorem OwnE.ints (h : OwnE w B L A D r) : Ints w D r.m r.Z := by obtain ⟨g1, g2, h⟩ := h; exact h.ints
end
theorem Box.far3 {w : World} {b g : Nat} {x y z u0 u1 u2 : Value} {t : TypeId} (h : Box w b x y z t) (hne : b ≠ g) : Box (((w.setCell ⟨g, 0, none⟩ u0).setCell ⟨g, 1, none⟩ u1).setCell ⟨g, 2, none⟩ u2) b x y z t := ((h.far _ hne).far _ hne).far _ hne
/-- The boxes of a law's two reaches. -/
structure Args (w wx : World) (a0 a1 a2 b0 b1 b2 : Value) : Prop where
  x : Box wx w.heap.size a0 a1 a2 25
  y : Box wx (w.heap.size + 1) b0 b1 b2 25
  b : Below w.heap.size w wx
section
variable {w wx wy : World} {a0 a1 a2 b0 b1 b2 : Value}
theorem Args.new (w : World) (a0 a1 a2 b0 b1 b2 : Value) : Args w ((w.alloc (.cells #[a0, a1, a2] 25)).alloc (.cells #[b0, b1, b2] 25)) a0 a1 a2 b0 b1 b2 := by
  have h1 := Box.new (w.alloc (.cells #[a0, a1, a2] 25)) b0 b1 b2 25
  simp only [World.size_alloc] at h1
  exact ⟨(Box.new w a0 a1 a2 25).alloc _, h1, ((Below.refl _ _).alloc (Nat.le_refl _) _).alloc (by simp) _⟩
theorem Args.lt (h : Args w wx a0 a1 a2 b0 b1 b2) : w.heap.size + 1 < wx.heap.size := h.y.lt
theorem Args.below (h : Args w wx a0 a1 a2 b0 b1 b2) (hb : Below wx.heap.size wx wy) : Args w wy a0 a1 a2 b0 b1 b2 := ⟨h.x.below hb, h.y.below hb, h.b.trans (hb.mono h.b.size)⟩
theorem Args.touch {B L : Nat} (h : Args w wx a0 a1 a2 b0 b1 b2) (ht : Touch wx wy B L) (hB : w.heap.size + 1 < B) : Args w wy a0 a1 a2 b0 b1 b2 := ⟨h.x.touch ht (by omega), h.y.touch ht (by omega), ht.below h.b (by omega)⟩
theorem Args.past (h : Args w wx a0 a1 a2 b0 b1 b2) (o : Obj) : Args w (wx.alloc o) a0 a1 a2 b0 b1 b2 := h.below ((Below.refl _ _).alloc (Nat.le_refl _) o)
theorem Args.drewI (h : Args w wx a0 a1 a2 b0 b1 b2) : Args w wx.drew a0 a1 a2 b0 b1 b2 := ⟨h.x, h.y, h.b.drew⟩
theorem Args.fill {g : Nat} {u0 u1 u2 : Value} (h : Args w wx a0 a1 a2 b0 b1 b2) (hg : w.heap.size + 1 < g) : Args w (((wx.setCell ⟨g, 0, none⟩ u0).setCell ⟨g, 1, none⟩ u1).setCell ⟨g, 2, none⟩ u2) a0 a1 a2 b0 b1 b2 :=
  ⟨h.x.far3 (by omega), h.y.far3 (by omega), (touch3 u0 u1 u2).below h.b (by omega)⟩
theorem Args.cells (h : Args w wx a0 a1 a2 b0 b1 b2) : wx.cell? ⟨w.heap.size, 0, none⟩ = some a0 ∧ wx.cell? ⟨w.heap.size, 1, none⟩ = some a1 ∧ wx.cell? ⟨w.heap.size, 2, none⟩ = some a2 ∧
    wx.cell? ⟨w.heap.size + 1, 0, none⟩ = some b0 ∧ wx.cell? ⟨w.heap.size + 1, 1, none⟩ = some b1 ∧ wx.cell? ⟨w.heap.size + 1, 2, none⟩ = some b2 := by
  obtain ⟨x0, x1, x2⟩ := h.x.at
  obtain ⟨y0, y1, y2⟩ := h.y.at
  exact ⟨x0, x1, x2, y0, y1, y2⟩
end
section
variable {W0 w : World} {HB : Veil (Below W0.heap.size W0 w)}
include HB
theorem toReach_v (r : Rc) (A D : Option Addr) (c d : Nat) (hn : r.n ≤ 1048576) (hm : r.m ≤ 1048576) (hp : SrcPts W0 A r.n r.X r.Y) (hd : SrcI W0 D r.m r.Z) :
    Calls Try.prog 6 #[.agg #[.slice A r.n c, .int .i64 r.v, .slice D r.m d]] w fun e w' => (∃ A1 c1 D1 d1, e = .returned (.agg #[.slice A1 r.n c1, .int .i64 r.v, .slice D1 r.m d1]) ∧ r.m ≤ d1 ∧ Veil (OwnE w' w.heap.size w'.heap.size A1 D1 r)) ∧ Veil (Below W0.heap.size W0 w') ∧ Below w.heap.size w w' :=
  (toReach r A D c d w hn hm (hp.below HB.out) (hd.below HB.out)).mono fun e w' ⟨⟨A1, c1, D1, d1, g1, g2, h1, h2, h3⟩, h4⟩ => ⟨⟨A1, c1, D1, d1, h1, h2, vl ⟨g1, g2, h3⟩⟩, vl (HB.out.trans (h4.mono HB.out.size)), h4⟩
end
theorem eqReach_e (r : Rc) (A D A' D' : Option Addr) (c d c' d' : Nat) (w : World) (hn : r.n ≤ 1048576) (hm : r.m ≤ 1048576) {B L B' L' : Nat} (h : OwnE w B L A D r) (h' : OwnE w B' L' A' D' r) :
    Calls Try.prog 8 #[.agg #[.slice A r.n c, .int .i64 r.v, .slice D r.m d], .agg #[.slice A' r.n c', .int .i64 r.v, .slice D' r.m d']] w fun e w' => e = .returned (.bool true) ∧ Below w.heap.size w w' := by
  obtain ⟨g1, g2, h⟩ := h
  obtain ⟨g3, g4, h'⟩ := h'
  exact eqReach r A D A' D' c d c' d' w hn hm h h'
theorem markReach_e (r : Rc) (A D : Option Addr) (c d K K' : Nat) (hK' : K + 2 * r.n + r.m = K') (w : World) (hn : r.n ≤ 1048576) (hm : r.m ≤ 1048576) (hK : K ≤ 50000000) {B L : Nat} (h : OwnE w B L A D r) (hL : L ≤ w.heap.size) :
    Calls Try.prog 9 #[.agg #[.slice A r.n c, .int .i64 r.v, .slice D r.m d], .int .i64 (K : Int)] w fun e w' => e = .returned (.int .i64 (K' : Int)) ∧ OwnE w' B L A D (markR r K) ∧ Touch w w' B L := by
  obtain ⟨g1, g2, h⟩ := h
  subst hK'
  exact (markReach r A D c d K w hn hm hK h hL).mono fun e w' ⟨h1, h2, h3⟩ => ⟨h1, ⟨g1, g2, h2⟩, h3⟩
theorem heldReach_e (r : Rc) (A D : Option Addr) (c d K K' : Nat) (hK' : K + 2 * r.n + r.m = K') (w : World) (v : Int) (hn : r.n ≤ 1048576) (hm : r.m ≤ 1048576) (hK : K ≤ 50000000) {B L : Nat} (h : OwnE w B L A D (markR r K)) :
    Calls Try.prog 10 #[.agg #[.slice A r.n c, .int .i64 v, .slice D r.m d], .int .i64 (K : Int)] w fun e w' => e = .returned (.int .i64 (K' : Int)) ∧ Below w.heap.size w w' := by
  obtain ⟨g1, g2, h⟩ := h
  subst hK'
  exact heldReach r A D c d K w v hn hm hK h
end Go.Proofs.Ytlaffdfnmpkocaa.C1
