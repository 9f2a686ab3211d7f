/- Rivers: slices of reaches, whether they are valid, and their totals. -/
import Derived.Test.YtkaddacflblghaaRchL
namespace Go.Proofs.Ytkaddacflblghaa.C1
open Go.ChangeShapes Go.WideShapes Go.ChangeAt Go.RowKit
set_option linter.unusedVariables false

def sumT (R : Nat → Rc) : Nat → Int
  | 0 => 0
  | k + 1 => sumT R k + totZ (R k)
def okAll (R : Nat → Rc) : Nat → Bool
  | 0 => true
  | k + 1 => okAll R k && rOk (R k)
theorem okAll_iff {R : Nat → Rc} {n : Nat} : okAll R n = true ↔ ∀ i, i < n → rOk (R i) = true := by
  induction n with
  | zero => simp [okAll]
  | succ n ih =>
    simp only [okAll, Bool.and_eq_true, ih]
    constructor
    · rintro ⟨h1, h2⟩ i hi
      rcases Nat.lt_or_ge i n with h | h
      · exact h1 i h
      · obtain rfl : i = n := by omega
        exact h2
    · intro h
      exact ⟨fun i hi => h i (by omega), h n (by omega)⟩
theorem okAll_no {R : Nat → Rc} {n k : Nat} (hk : k < n) (h : rOk (R k) = false) : okAll R n = false := by
  rw [Bool.eq_false_iff]
  intro h'
  rw [okAll_iff.1 h' k hk] at h
  cases h
theorem sumT_bd {R : Nat → Rc} {n : Nat} (h : okAll R n = true) : ∀ k, k ≤ n → 0 ≤ sumT R k ∧ sumT R k ≤ k * 1000000000 := by
  intro k
  induction k with
  | zero => intro _; simp [sumT]
  | succ k ih =>
    intro hk
    have h1 := ih (by omega)
    have H := rOk_iff.1 (okAll_iff.1 h k (by omega))
    have h2 := H.t0.2
    have h3 := H.t1
    unfold sumT
    omega
theorem sumT_mono {R : Nat → Rc} {n : Nat} (h : okAll R n = true) {k : Nat} (hk : k ≤ n) : sumT R k ≤ sumT R n := by
  obtain ⟨d, rfl⟩ : ∃ d, n = k + d := ⟨n - k, by omega⟩
  induction d with
  | zero => exact Int.le_refl _
  | succ d ih =>
    have hd : okAll R (k + d) = true := okAll_iff.2 fun i hi => okAll_iff.1 h i (by omega)
    have := ih hd (by omega)
    have := (rOk_iff.1 (okAll_iff.1 h (k + d) (by omega))).t0.2
    show _ ≤ sumT R (k + d) + totZ (R (k + d))
    omega
def riverB (n : Nat) (R : Nat → Rc) : Bool := inB (n : Int) 1 6 && (okAll R n && decide (sumT R n ≤ 1000000000))
def rivT (n : Nat) (R : Nat → Rc) : Int := if riverB n R = true then sumT R n else 0
theorem riv_len {n : Nat} {R : Nat → Rc} (h : inB (n : Int) 1 6 = false) : riverB n R = false := by unfold riverB; rw [h, Bool.false_and]
theorem riv_bad {n : Nat} {R : Nat → Rc} (h : okAll R n = false) : riverB n R = false := by unfold riverB; rw [h, Bool.false_and, Bool.and_false]
theorem riv_ok {n : Nat} {R : Nat → Rc} (h : inB (n : Int) 1 6 = true) (h' : okAll R n = true) : riverB n R = decide (sumT R n ≤ 1000000000) := by unfold riverB; rw [h, h', Bool.true_and, Bool.true_and]
theorem riv_parts {n : Nat} {R : Nat → Rc} (h : riverB n R = true) : 1 ≤ n ∧ n ≤ 6 ∧ okAll R n = true ∧ sumT R n ≤ 1000000000 := by
  unfold riverB at h
  simp only [Bool.and_eq_true, decide_eq_true_eq, inB_iff] at h
  exact ⟨by omega, by omega, h.2.1, h.2.2⟩

/-- A slice of reaches in a block of plain cells. -/
def Rvr (w : World) (A : Option Addr) (n : Nat) (R : Nat → Rc) : Prop :=
  0 < n → ∃ g o, A = some ⟨g, o, none⟩ ∧ ∀ i, i < n → ∃ Ai Di ci di, w.cell? ⟨g, o + i * 3, none⟩ = some (.slice Ai (R i).n ci) ∧ w.cell? ⟨g, o + i * 3 + 1, none⟩ = some (.int .i64 (R i).v) ∧ w.cell? ⟨g, o + i * 3 + 2, none⟩ = some (.slice Di (R i).m di) ∧
    (R i).m ≤ di ∧ Hid (Pts w Ai (R i).n (R i).X (R i).Y) ∧ Hid (Ints w Di (R i).m (R i).Z)
theorem Rvr.below {w w' : World} {A : Option Addr} {n : Nat} {R : Nat → Rc} (h : Rvr w A n R) (hb : Below w.heap.size w w') : Rvr w' A n R := fun hn => by
  obtain ⟨g, o, e, hc⟩ := h hn
  refine ⟨g, o, e, fun i hi => ?_⟩
  obtain ⟨Ai, Di, ci, di, h1, h2, h3, h4, h5, h6⟩ := hc i hi
  exact ⟨Ai, Di, ci, di, (hb.cell (cell_lt h1)).trans h1, (hb.cell (cell_lt h2)).trans h2, (hb.cell (cell_lt h3)).trans h3, h4, Lib.hid (h5.out.below hb), Lib.hid (h6.out.below hb)⟩
/-- All slices of a river are of modest length. -/
def Small (n : Nat) (R : Nat → Rc) : Prop := ∀ i, i < n → (R i).n ≤ 1048576 ∧ (R i).m ≤ 1048576

end Go.Proofs.Ytkaddacflblghaa.C1
