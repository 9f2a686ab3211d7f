/- What the exact laws on boats and trains share. -/
import Derived.Test.YtngmpimoebggdaaTrnE
import Derived.Test.YtngmpimoebggdaaTrnU
import Derived.Deep.RegionHeld3
namespace Go.Proofs.Ytngmpimoebggdaa.C1
open Go.ChangeShapes Go.WideShapes Go.ChangeAt Go.RowKit
set_option linter.unusedVariables false

/-- A boat's box. -/
def BxB (w : World) (g : Nat) (b : Bt) : Prop :=
  w.cell? ⟨g, 0, none⟩ = some (.int .i64 b.i) ∧ w.cell? ⟨g, 1, none⟩ = some (.int .i64 b.l) ∧ w.cell? ⟨g, 2, none⟩ = some (.int .i64 b.w) ∧ w.cell? ⟨g, 3, none⟩ = some (.int .i64 b.d) ∧ w.cell? ⟨g, 4, none⟩ = some (.int .i64 b.s) ∧ w.cell? ⟨g, 5, none⟩ = some (.int .i64 b.c)
theorem BxB.new (w : World) (b : Bt) (t : TypeId) : BxB (w.alloc (.cells #[.int .i64 b.i, .int .i64 b.l, .int .i64 b.w, .int .i64 b.d, .int .i64 b.s, .int .i64 b.c] t)) w.heap.size b := ⟨by simp, by simp, by simp, by simp, by simp, by simp⟩
theorem BxB.below {w w' : World} {g : Nat} {b : Bt} (h : BxB w g b) (hb : Below w.heap.size w w') : BxB w' g b := by
  obtain ⟨h0, h1, h2, h3, h4, h5⟩ := h
  exact ⟨(hb.cell (cell_lt' h0)).trans h0, (hb.cell (cell_lt' h1)).trans h1, (hb.cell (cell_lt' h2)).trans h2, (hb.cell (cell_lt' h3)).trans h3, (hb.cell (cell_lt' h4)).trans h4, (hb.cell (cell_lt' h5)).trans h5⟩
theorem TBox.touch {w w' : World} {g n c B L : Nat} {up : Bool} {A : Option Addr} (h : TBox w g up A n c) (t : Touch w w' B L) (hg : g < B ∨ L ≤ g) : TBox w' g up A n c :=
  ⟨(World.cell?_of_block (t.block g (cell_lt' h.1) hg)).trans h.1, (World.cell?_of_block (t.block g (cell_lt' h.2) hg)).trans h.2⟩
theorem TBox.lt {w : World} {g n c : Nat} {up : Bool} {A : Option Addr} (h : TBox w g up A n c) : g < w.heap.size := cell_lt' h.1
theorem mod_of {T : List (List Bt)} (h : (szT T : Int) ≤ 1048576) : Mod T := by
  unfold szT at h
  exact ⟨by omega, by omega⟩
end Go.Proofs.Ytngmpimoebggdaa.C1
