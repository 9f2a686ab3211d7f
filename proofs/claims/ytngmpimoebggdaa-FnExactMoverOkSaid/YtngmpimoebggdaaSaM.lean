/- The mathematics of sailing: ways, depths, paces, movers. -/
import Derived.Test.YtngmpimoebggdaaBdM
namespace Go.Proofs.Ytngmpimoebggdaa.C1
open Go.ChangeShapes Go.WideShapes Go.ChangeAt Go.RowKit
set_option linter.unusedVariables false

structure Wy where
  l : Int
  b : Int
/-- A mover: its train's direction and rows, its place. -/
structure Mv where
  up : Bool
  T : List (List Bt)
  p : Int
def wyB (y : Wy) : Bool := inB y.l 1 10000 && inB y.b 0 100000
def depZ (y : Wy) (r : Rc) : Int := if (wyB y && rOk r) = true then max 0 (levelR r - y.b) else 0
def pacC (T : List (List Bt)) (d : Int) : Int := if d < draT T then 0 else if 2 * d < 3 * draT T then (speT T + 1) / 2 else speT T
def pacZ (T : List (List Bt)) (d : Int) : Int := if (tOk T && inB d 0 1000000000) = true then pacC T d else 0
def mvB (m : Mv) (y : Wy) : Bool := wyB y && (tOk m.T && inB m.p 0 y.l)
def lefZ (m : Mv) (y : Wy) : Int := if m.up = true then m.p else y.l - m.p
def endB (m : Mv) (y : Wy) : Bool := mvB m y && decide (lefZ m y = 0)
def mayS (m : Mv) (y : Wy) (r : Rc) : Bool := mvB m y && rOk r
def movP (m : Mv) (y : Wy) (r : Rc) : Int := if mayS m y r = true then (if m.up = true then max 0 (m.p - pacZ m.T (depZ y r)) else min y.l (m.p + pacZ m.T (depZ y r))) else m.p
def timZ (m : Mv) (y : Wy) (r : Rc) : Int := if mayS m y r = true then (if lefZ m y = 0 then 0 else if pacZ m.T (depZ y r) = 0 then -1 else (lefZ m y + pacZ m.T (depZ y r) - 1) / pacZ m.T (depZ y r)) else -1
structure WyP (y : Wy) : Prop where
  l0 : 1 ≤ y.l
  l1 : y.l ≤ 10000
  b0 : 0 ≤ y.b
  b1 : y.b ≤ 100000
theorem wyB_iff {y : Wy} : wyB y = true ↔ WyP y := by
  unfold wyB
  simp only [Bool.and_eq_true, inB_iff]
  exact ⟨fun ⟨⟨a, b⟩, c, d⟩ => ⟨a, b, c, d⟩, fun ⟨a, b, c, d⟩ => ⟨⟨a, b⟩, c, d⟩⟩
theorem dep_no1 {y : Wy} {r : Rc} (h : wyB y = false) : depZ y r = 0 := by unfold depZ; rw [h, Bool.false_and, if_neg (by decide)]
theorem dep_no2 {y : Wy} {r : Rc} (h : rOk r = false) : depZ y r = 0 := by unfold depZ; rw [h, Bool.and_false, if_neg (by decide)]
theorem dep_yes {y : Wy} {r : Rc} (h1 : wyB y = true) (h2 : rOk r = true) : depZ y r = max 0 (levelR r - y.b) := by unfold depZ; rw [h1, h2, Bool.and_self, if_pos rfl]
theorem dep_bd (y : Wy) (r : Rc) : 0 ≤ depZ y r ∧ depZ y r ≤ 1000000000 := by
  unfold depZ
  split
  · rename_i h
    rw [Bool.and_eq_true] at h
    have := wyB_iff.1 h.1
    have h0 := this.b0
    have := levelR_bd r
    omega
  · omega
theorem pacC_bd (T : List (List Bt)) (d : Int) : 0 ≤ pacC T d ∧ pacC T d ≤ 50 := by
  unfold pacC
  have := speT_bd T
  split
  · omega
  · split <;> omega
theorem pacZ_bd (T : List (List Bt)) (d : Int) : 0 ≤ pacZ T d ∧ pacZ T d ≤ 50 := by
  unfold pacZ
  split
  · exact pacC_bd T d
  · omega
theorem pac_no1 {T : List (List Bt)} {d : Int} (h : tOk T = false) : pacZ T d = 0 := by unfold pacZ; rw [h, Bool.false_and, if_neg (by decide)]
theorem pac_no2 {T : List (List Bt)} {d : Int} (h : inB d 0 1000000000 = false) : pacZ T d = 0 := by unfold pacZ; rw [h, Bool.and_false, if_neg (by decide)]
theorem pac_yes {T : List (List Bt)} {d : Int} (h : tOk T = true) (h2 : inB d 0 1000000000 = true) : pacZ T d = pacC T d := by unfold pacZ; rw [h, h2, Bool.and_self, if_pos rfl]
structure MvP (m : Mv) (y : Wy) : Prop where
  w : wyB y = true
  t : tOk m.T = true
  p0 : 0 ≤ m.p
  p1 : m.p ≤ y.l
theorem mvB_iff {m : Mv} {y : Wy} : mvB m y = true ↔ MvP m y := by
  unfold mvB
  simp only [Bool.and_eq_true, inB_iff]
  exact ⟨fun ⟨a, b, c, d⟩ => ⟨a, b, c, d⟩, fun ⟨a, b, c, d⟩ => ⟨a, b, c, d⟩⟩
theorem lef_bd {m : Mv} {y : Wy} (h : mvB m y = true) : 0 ≤ lefZ m y ∧ lefZ m y ≤ 10000 := by
  obtain ⟨a, b, c, d⟩ := mvB_iff.1 h
  have := (wyB_iff.1 a).l1
  unfold lefZ
  split <;> omega
theorem mov_no {m : Mv} {y : Wy} {r : Rc} (h : mayS m y r = false) : movP m y r = m.p := by unfold movP; rw [h]; rfl
theorem tim_no {m : Mv} {y : Wy} {r : Rc} (h : mayS m y r = false) : timZ m y r = -1 := by unfold timZ; rw [h]; rfl
theorem may_yes {m : Mv} {y : Wy} {r : Rc} (h : mayS m y r = true) : mvB m y = true ∧ rOk r = true := by unfold mayS at h; rwa [Bool.and_eq_true] at h
end Go.Proofs.Ytngmpimoebggdaa.C1
