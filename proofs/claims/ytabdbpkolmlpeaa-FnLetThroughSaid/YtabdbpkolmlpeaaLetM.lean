/- LetThrough: what it gives; what lies in memory on its way. (written by wip/genlet.py) -/
import Derived.Test.YtabdbpkolmlpeaaPassS
import Derived.Test.YtabdbpkolmlpeaaWr5
namespace Go.Proofs.Ytabdbpkolmlpeaa.C1
open Go.ChangeShapes Go.WideShapes Go.ChangeAt Go.RowKit
set_option linter.unusedVariables false

theorem valZ_range (n : Nat) (X Y : Nat → Int) (x : Int) : 0 ≤ valZ n X Y x ∧ valZ n X Y x ≤ 1000000000 := by
  cases ht : tabOk n X Y with
  | false => rw [valZ_no ht]; omega
  | true =>
    have T := tabP_of ht
    have t2 := T.two
    have y0 := T.y 0 (by omega)
    have y9 := T.y (n - 1) (by omega)
    by_cases h1 : x ≤ X 0
    · rw [valZ_low ht h1]; exact y0
    · by_cases h2 : X (n - 1) ≤ x
      · rw [valZ_high ht (by omega) h2]; exact y9
      · have m1 := valZ_mono ht (u := X 0) (v := x) (Int.le_refl _) (by omega) (by omega)
        have m2 := valZ_mono ht (u := x) (v := X (n - 1)) (by omega) (by omega) (Int.le_refl _)
        rw [valZ_at ht (by omega)] at m1 m2
        omega
def letF (r t : Rc) (V : Wr) : Int := flowW V (levelR r) (levelR t)
def letK (r : Rc) (V : Wr) : Int := valZ r.n r.X r.Y V.k
theorem pass_flat (r t : Rc) (k : Int) : passN r t 0 k = 0 := by
  unfold passN passM
  have := (spaceR_bd t).1
  rw [show min 0 (spaceR t) = 0 by omega]
  exact takeA_zero r k
theorem let_no {r t : Rc} {V : Wr} (h : rOk r = false ∨ rOk t = false ∨ wOk V = false) : passN r t (letF r t V) (letK r V) = 0 := by
  rcases h with h | h | h
  · exact pass_no (.inl h)
  · exact pass_no (.inr (.inl h))
  · have e : letF r t V = 0 := by unfold letF flowW flowB; rw [h]; rfl
    rw [e]; exact pass_flat r t _
/-- The boxes of two reaches and a weir that came in, and of two reaches that go out. -/
structure Five (w wx : World) (a0 a1 a2 b0 b1 b2 : Value) (V : Wr) : Prop where
  x : Box wx w.heap.size a0 a1 a2 29
  y : Box wx (w.heap.size + 1) b0 b1 b2 29
  z : Box5 wx (w.heap.size + 1 + 1) (.int .i64 V.g) (.int .i64 V.o) (.int .i64 V.s) (.int .i64 V.k) (.int .i64 V.w) 39
  u : Box wx (w.heap.size + 1 + 1 + 1) (.slice none 0 0) (.int .i64 0) (.slice none 0 0) 29
  v : Box wx (w.heap.size + 1 + 1 + 1 + 1) (.slice none 0 0) (.int .i64 0) (.slice none 0 0) 29
  b : Below w.heap.size w wx
section
variable {w wx wy : World} {a0 a1 a2 b0 b1 b2 : Value} {V : Wr}
theorem Five.new (w : World) (a0 a1 a2 b0 b1 b2 : Value) (V : Wr) : Five w (((((w.alloc (.cells #[a0, a1, a2] 29)).alloc (.cells #[b0, b1, b2] 29)).alloc (.cells #[.int .i64 V.g, .int .i64 V.o, .int .i64 V.s, .int .i64 V.k, .int .i64 V.w] 39)).alloc (.cells #[.slice none 0 0, .int .i64 0, .slice none 0 0] 29)).alloc (.cells #[.slice none 0 0, .int .i64 0, .slice none 0 0] 29)) a0 a1 a2 b0 b1 b2 V := by
  obtain ⟨w1, e1⟩ : ∃ w1, w1 = w.alloc (.cells #[a0, a1, a2] 29) := ⟨_, rfl⟩
  obtain ⟨w2, e2⟩ : ∃ w2, w2 = w1.alloc (.cells #[b0, b1, b2] 29) := ⟨_, rfl⟩
  obtain ⟨w3, e3⟩ : ∃ w3, w3 = w2.alloc (.cells #[.int .i64 V.g, .int .i64 V.o, .int .i64 V.s, .int .i64 V.k, .int .i64 V.w] 39) := ⟨_, rfl⟩
  obtain ⟨w4, e4⟩ : ∃ w4, w4 = w3.alloc (.cells #[.slice none 0 0, .int .i64 0, .slice none 0 0] 29) := ⟨_, rfl⟩
  have s1 : w1.heap.size = w.heap.size + 1 := by rw [e1]; simp
  have s2 : w2.heap.size = w.heap.size + 1 + 1 := by rw [e2]; simp [s1]
  have s3 : w3.heap.size = w.heap.size + 1 + 1 + 1 := by rw [e3]; simp [s2]
  have s4 : w4.heap.size = w.heap.size + 1 + 1 + 1 + 1 := by rw [e4]; simp [s3]
  have h0 := Box.new w a0 a1 a2 29
  have h1 := Box.new w1 b0 b1 b2 29
  have h2 := Box5.new w2 (.int .i64 V.g) (.int .i64 V.o) (.int .i64 V.s) (.int .i64 V.k) (.int .i64 V.w) 39
  have h3 := Box.new w3 (.slice none 0 0) (.int .i64 0) (.slice none 0 0) 29
  have h4 := Box.new w4 (.slice none 0 0) (.int .i64 0) (.slice none 0 0) 29
  rw [← e1] at h0 ⊢; rw [← e2] at h1 ⊢; rw [← e3] at h2 ⊢; rw [← e4] at h3 ⊢
  rw [s1] at h1; rw [s2] at h2; rw [s3] at h3; rw [s4] at h4
  have b1 : Below w.heap.size w w1 := by rw [e1]; exact (Below.refl _ _).alloc (Nat.le_refl _) _
  have b2 : Below w.heap.size w w2 := by rw [e2]; exact b1.alloc (by omega) _
  have b3 : Below w.heap.size w w3 := by rw [e3]; exact b2.alloc (by omega) _
  have b4 : Below w.heap.size w w4 := by rw [e4]; exact b3.alloc (by omega) _
  have k1 : ∀ {x y z : Value} {p : Nat}, Box w1 p x y z 29 → Box w2 p x y z 29 := fun h => by rw [e2]; exact h.alloc _
  have k2 : ∀ {x y z : Value} {p : Nat}, Box w2 p x y z 29 → Box w3 p x y z 29 := fun h => by rw [e3]; exact h.alloc _
  have k3 : ∀ {x y z : Value} {p : Nat}, Box w3 p x y z 29 → Box w4 p x y z 29 := fun h => by rw [e4]; exact h.alloc _
  exact ⟨(k3 (k2 (k1 h0))).alloc _, (k3 (k2 h1)).alloc _, (show Box5 w4 _ _ _ _ _ _ _ from by rw [e4]; exact h2.alloc _).alloc _, h3.alloc _, h4, b4.alloc (by omega) _⟩
theorem Five.lt (h : Five w wx a0 a1 a2 b0 b1 b2 V) : w.heap.size + 1 + 1 + 1 + 1 < wx.heap.size := h.v.lt
theorem Five.below (h : Five w wx a0 a1 a2 b0 b1 b2 V) (hb : Below wx.heap.size wx wy) : Five w wy a0 a1 a2 b0 b1 b2 V := ⟨h.x.below hb, h.y.below hb, h.z.below hb, h.u.below hb, h.v.below hb, h.b.trans (hb.mono h.b.size)⟩
theorem Five.drewI (h : Five w wx a0 a1 a2 b0 b1 b2 V) : Five w wx.drew a0 a1 a2 b0 b1 b2 V := ⟨h.x, h.y, h.z, h.u, h.v, h.b.drew⟩
theorem Five.cells (h : Five w wx a0 a1 a2 b0 b1 b2 V) : wx.cell? ⟨w.heap.size, 0, none⟩ = some a0 ∧ wx.cell? ⟨w.heap.size, 1, none⟩ = some a1 ∧ wx.cell? ⟨w.heap.size, 2, none⟩ = some a2 ∧ wx.cell? ⟨w.heap.size + 1, 0, none⟩ = some b0 ∧ wx.cell? ⟨w.heap.size + 1, 1, none⟩ = some b1 ∧ wx.cell? ⟨w.heap.size + 1, 2, none⟩ = some b2 ∧ wx.cell? ⟨w.heap.size + 1 + 1, 0, none⟩ = some (.int .i64 V.g) ∧ wx.cell? ⟨w.heap.size + 1 + 1, 1, none⟩ = some (.int .i64 V.o) ∧ wx.cell? ⟨w.heap.size + 1 + 1, 2, none⟩ = some (.int .i64 V.s) ∧ wx.cell? ⟨w.heap.size + 1 + 1, 3, none⟩ = some (.int .i64 V.k) ∧ wx.cell? ⟨w.heap.size + 1 + 1, 4, none⟩ = some (.int .i64 V.w) := by
  obtain ⟨x0, x1, x2⟩ := h.x.at
  obtain ⟨y0, y1, y2⟩ := h.y.at
  obtain ⟨z0, z1, z2, z3, z4⟩ := h.z.at
  exact ⟨x0, x1, x2, y0, y1, y2, z0, z1, z2, z3, z4⟩
end
end Go.Proofs.Ytabdbpkolmlpeaa.C1
