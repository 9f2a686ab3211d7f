/- One train in a box, and two joined: what the exact law of CoupleTrains carries from world to world. -/
import Derived.Test.YtmfeleocjmdooaaTrL2
import Derived.Test.YtmfeleocjmdooaaTrE
import Derived.Test.YtmfeleocjmdooaaOne
namespace Go.Proofs.Ytmfeleocjmdooaa.C1
open Go.ChangeShapes Go.WideShapes Go.ChangeAt Go.RowKit
set_option linter.unusedVariables false

theorem mod_join {T1 T2 : List (List Bt)} (h : (szT T1 : Int) + (szT T2 : Int) ≤ 1048576) : Mod (T1 ++ T2) := by
  unfold szT bts at h
  refine ⟨by rw [List.length_append]; omega, ?_⟩
  unfold bts
  rw [List.flatten_append, List.length_append]
  omega
theorem couT_mod {u1 u2 : Bool} {T1 T2 : List (List Bt)} (h : Mod (T1 ++ T2)) : Mod (couT u1 u2 T1 T2) := by
  unfold couT; split
  · exact h
  · exact mod_nil
/-- The four cells of two trains in boxes p and p + 1. -/
abbrev A4 (w : World) (p : Nat) (u1 : Bool) (A1 : Option Addr) (n1 c1 : Nat) (u2 : Bool) (A2 : Option Addr) (n2 c2 : Nat) : Prop :=
  w.cell? ⟨p, 0, none⟩ = some (.bool u1) ∧ w.cell? ⟨p, 1, none⟩ = some (.slice A1 n1 c1) ∧ w.cell? ⟨p + 1, 0, none⟩ = some (.bool u2) ∧ w.cell? ⟨p + 1, 1, none⟩ = some (.slice A2 n2 c2)
section
variable {w w' : World} {p n1 c1 n2 c2 : Nat} {u1 u2 : Bool} {A1 A2 : Option Addr}
theorem A4.below (h : A4 w p u1 A1 n1 c1 u2 A2 n2 c2) (hb : Below w.heap.size w w') : A4 w' p u1 A1 n1 c1 u2 A2 n2 c2 :=
  ⟨(hb.cell (cell_lt' h.1)).trans h.1, (hb.cell (cell_lt' h.2.1)).trans h.2.1, (hb.cell (cell_lt' h.2.2.1)).trans h.2.2.1, (hb.cell (cell_lt' h.2.2.2)).trans h.2.2.2⟩
theorem A4.alloc (h : A4 w p u1 A1 n1 c1 u2 A2 n2 c2) (o : Obj) : A4 (w.alloc o) p u1 A1 n1 c1 u2 A2 n2 c2 := h.below ((Below.refl _ _).alloc (Nat.le_refl _) o)
theorem A4.drew (h : A4 w p u1 A1 n1 c1 u2 A2 n2 c2) : A4 w.drew p u1 A1 n1 c1 u2 A2 n2 c2 := h
theorem A4.set2 (h : A4 w p u1 A1 n1 c1 u2 A2 n2 c2) {q : Nat} (hq : p + 2 ≤ q) (u v : Value) : A4 ((w.setCell ⟨q, 0, none⟩ u).setCell ⟨q, 1, none⟩ v) p u1 A1 n1 c1 u2 A2 n2 c2 := by
  refine ⟨?_, ?_, ?_, ?_⟩
  · rw [World.cell?_setCell_other _ _ _ _ (by intro e; injection e with e; omega), World.cell?_setCell_other _ _ _ _ (by intro e; injection e with e; omega)]; exact h.1
  · rw [World.cell?_setCell_other _ _ _ _ (by intro e; injection e with e; omega), World.cell?_setCell_other _ _ _ _ (by intro e; injection e with e; omega)]; exact h.2.1
  · rw [World.cell?_setCell_other _ _ _ _ (by intro e; injection e with e; omega), World.cell?_setCell_other _ _ _ _ (by intro e; injection e with e; omega)]; exact h.2.2.1
  · rw [World.cell?_setCell_other _ _ _ _ (by intro e; injection e with e; omega), World.cell?_setCell_other _ _ _ _ (by intro e; injection e with e; omega)]; exact h.2.2.2
theorem A4.set1 (h : A4 w p u1 A1 n1 c1 u2 A2 n2 c2) {q : Nat} (hq : p + 2 ≤ q) (u : Value) : A4 (w.setCell ⟨q, 0, none⟩ u) p u1 A1 n1 c1 u2 A2 n2 c2 := by
  refine ⟨?_, ?_, ?_, ?_⟩
  · rw [World.cell?_setCell_other _ _ _ _ (by intro e; injection e with e; omega)]; exact h.1
  · rw [World.cell?_setCell_other _ _ _ _ (by intro e; injection e with e; omega)]; exact h.2.1
  · rw [World.cell?_setCell_other _ _ _ _ (by intro e; injection e with e; omega)]; exact h.2.2.1
  · rw [World.cell?_setCell_other _ _ _ _ (by intro e; injection e with e; omega)]; exact h.2.2.2
end
/-- A train in box b, made since the world had lo blocks. -/
structure Spot (w : World) (lo b : Nat) (u : Bool) (S : List (List Bt)) : Prop where
  ex : ∃ A c B L g G, One w b u A S.length c B L S g G ∧ lo ≤ B ∧ B ≤ L ∧ L ≤ w.heap.size ∧ (b < B ∨ L ≤ b) ∧ lo ≤ b
theorem spot_a {w0 w5 : World} {B c g : Nat} {u : Bool} {A : Option Addr} {S : List (List Bt)} {G : Nat → Nat} (hb : Below w0.heap.size w0 w5) (hB : w0.heap.size ≤ B) (hB5 : B ≤ w5.heap.size) (ho : OwnT w5 B w5.heap.size A S g G) :
    Spot (w5.alloc (.cells #[.bool u, .slice A S.length c] 26)) w0.heap.size w5.heap.size u S ∧ Below w0.heap.size w0 (w5.alloc (.cells #[.bool u, .slice A S.length c] 26)) := by
  have hba := (Below.refl w5.heap.size w5).alloc (Nat.le_refl _) (.cells #[.bool u, .slice A S.length c] 26)
  exact ⟨⟨A, c, B, w5.heap.size, g, G, ⟨TBox.new w5 u A S.length c 26, ho.below hba⟩, hB, hB5, hba.size, Or.inr (Nat.le_refl _), hb.size⟩, hb.trans (hba.mono hb.size)⟩
theorem spot_b {w0 w5 : World} {B c g p : Nat} {u b : Bool} {v : Value} {A : Option Addr} {S : List (List Bt)} {G : Nat → Nat} (hb : Below w0.heap.size w0 w5) (hB : w0.heap.size ≤ B) (hB5 : B ≤ w5.heap.size) (hp : w0.heap.size ≤ p) (hpB : p < B) (hz : TBoxF w5 p b v) (ho : OwnT w5 B w5.heap.size A S g G) :
    Spot ((w5.setCell ⟨p, 0, none⟩ (.bool u)).setCell ⟨p, 1, none⟩ (.slice A S.length c)) w0.heap.size p u S ∧ Below w0.heap.size w0 ((w5.setCell ⟨p, 0, none⟩ (.bool u)).setCell ⟨p, 1, none⟩ (.slice A S.length c)) := by
  have t := touch2 w5 p (.bool u) (.slice A S.length c)
  exact ⟨⟨A, c, B, w5.heap.size, g, G, ⟨hz.fill u A S.length c, ho.touch t (Or.inr hpB)⟩, hB, hB5, t.size, Or.inl hpB, hp⟩, t.below hb hp⟩
theorem couple_spec' {u q : Bool} {S : List (List Bt)} (u1 u2 : Bool) (A1 A2 : Option Addr) (c1 c2 : Nat) (T1 T2 : List (List Bt)) (w : World) (hi : u = couU u1 u2 T1 T2 ∧ q = couB u1 u2 T1 T2 ∧ S = couT u1 u2 T1 T2) (hm1 : Mod T1) (hm2 : Mod T2) (hm12 : Mod (T1 ++ T2)) (hp1 : Trn w A1 T1) (hp2 : Trn w A2 T2) :
    Calls Try.prog 65 #[.agg #[.bool u1, .slice A1 T1.length c1], .agg #[.bool u2, .slice A2 T2.length c2]] w (GivesTB w u S q) := by
  obtain ⟨rfl, rfl, rfl⟩ := hi; exact couple_spec u1 u2 A1 A2 c1 c2 T1 T2 w hm1 hm2 hm12 hp1 hp2
theorem couple_impl' {u q : Bool} {S : List (List Bt)} (u1 u2 : Bool) (A1 A2 : Option Addr) (c1 c2 : Nat) (T1 T2 : List (List Bt)) (w : World) (hi : u = couU u1 u2 T1 T2 ∧ q = couB u1 u2 T1 T2 ∧ S = couT u1 u2 T1 T2) (hm1 : Mod T1) (hm2 : Mod T2) (hm12 : Mod (T1 ++ T2)) (hp1 : Trn w A1 T1) (hp2 : Trn w A2 T2) :
    Calls Try.prog 28 #[.agg #[.bool u1, .slice A1 T1.length c1], .agg #[.bool u2, .slice A2 T2.length c2]] w (GivesTB w u S q) := by
  obtain ⟨rfl, rfl, rfl⟩ := hi; exact couple_impl u1 u2 A1 A2 c1 c2 T1 T2 w hm1 hm2 hm12 hp1 hp2
end Go.Proofs.Ytmfeleocjmdooaa.C1
