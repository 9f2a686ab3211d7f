/- TableOk, of the program and of its model: both return the value of one plain function of the points. -/
import Derived.Test.YtclofbknbfmmlaaDoorPts
namespace Go.Proofs.YtclofbknbfmmlaaDoor.C1
open Go.ChangeShapes Go.WideShapes Go.ChangeAt Go.RowKit
set_option linter.unusedVariables false

/-- A slice of points in a block of plain cells. -/
def Pts (w : World) (A : Option Addr) (n : Nat) (X Y : Nat → Int) : Prop :=
  0 < n → ∃ g o, A = some ⟨g, o, none⟩ ∧ ∀ i, i < n → w.cell? ⟨g, o + i * 2, none⟩ = some (.int .i64 (X i)) ∧ w.cell? ⟨g, o + i * 2 + 1, none⟩ = some (.int .i64 (Y i))
theorem Pts.below {w w' : World} {A : Option Addr} {n : Nat} {X Y : Nat → Int} (h : Pts w A n X Y) (hb : Below w.heap.size w w') : Pts w' A n X Y := fun hn => by
  obtain ⟨g, o, e, hc⟩ := h hn
  exact ⟨g, o, e, fun i hi => ⟨(hb.cell (cell_lt (hc i hi).1)).trans (hc i hi).1, (hb.cell (cell_lt (hc i hi).2)).trans (hc i hi).2⟩⟩
theorem Pts.of_row {w : World} {g n : Nat} {t : TypeId} {X Y : Nat → Int} (h : w.rowIs g t (n * 2) (ptc X Y)) : Pts w (some ⟨g, 0, none⟩) n X Y := fun _ => by
  refine ⟨g, 0, rfl, fun i hi => ⟨?_, ?_⟩⟩
  · rw [Nat.zero_add, h.cell (i := i * 2) (by omega), ptc_x]
  · rw [Nat.zero_add, h.cell (i := i * 2 + 1) (by omega), ptc_y]

def okAt (X Y : Nat → Int) (i : Nat) : Bool := inB (X i) 0 1000000000 && inB (Y i) 0 1000000000 && (i == 0 || (decide (X (i - 1) < X i) && decide (Y (i - 1) ≤ Y i)))
def okTo (X Y : Nat → Int) : Nat → Bool
  | 0 => true
  | k + 1 => okTo X Y k && okAt X Y k
def tabOk (n : Nat) (X Y : Nat → Int) : Bool := inB (n : Int) 2 20 && okTo X Y n
theorem okTo_iff {X Y : Nat → Int} {n : Nat} : okTo X Y n = true ↔ ∀ i, i < n → okAt X Y i = true := by
  induction n with
  | zero => simp [okTo]
  | succ n ih =>
    simp only [okTo, Bool.and_eq_true, ih]
    constructor
    · rintro ⟨h1, h2⟩ i hi
      rcases Nat.lt_or_ge i n with h | h
      · exact h1 i h
      · obtain rfl : i = n := by omega
        exact h2
    · intro h
      exact ⟨fun i hi => h i (by omega), h n (by omega)⟩
theorem okTo_no {X Y : Nat → Int} {n k : Nat} (hk : k < n) (h : okAt X Y k = false) : okTo X Y n = false := by
  rw [Bool.eq_false_iff]
  intro h'
  rw [okTo_iff.1 h' k hk] at h
  cases h
theorem tab_no {X Y : Nat → Int} {n k : Nat} (hk : k < n) (h : okAt X Y k = false) : tabOk n X Y = false := by
  unfold tabOk; rw [okTo_no hk h, Bool.and_false]
theorem tab_len {X Y : Nat → Int} {n : Nat} (h : inB (n : Int) 2 20 = false) : tabOk n X Y = false := by
  unfold tabOk; rw [h, Bool.false_and]
theorem tab_to {X Y : Nat → Int} {n : Nat} (h : okTo X Y n = true) : tabOk n X Y = inB (n : Int) 2 20 := by
  unfold tabOk; rw [h, Bool.and_true]
/-- The five ways of one place. -/
theorem okAt_cases (X Y : Nat → Int) (k : Nat) :
    (okAt X Y k = false ∧ inB (X k) 0 1000000000 = false) ∨ (okAt X Y k = false ∧ inB (X k) 0 1000000000 = true ∧ inB (Y k) 0 1000000000 = false) ∨
    (okAt X Y k = true ∧ inB (X k) 0 1000000000 = true ∧ inB (Y k) 0 1000000000 = true ∧ k = 0) ∨
    (okAt X Y k = false ∧ inB (X k) 0 1000000000 = true ∧ inB (Y k) 0 1000000000 = true ∧ 0 < k ∧ X k ≤ X (k - 1)) ∨
    (okAt X Y k = false ∧ inB (X k) 0 1000000000 = true ∧ inB (Y k) 0 1000000000 = true ∧ 0 < k ∧ X (k - 1) < X k ∧ Y k < Y (k - 1)) ∨
    (okAt X Y k = true ∧ inB (X k) 0 1000000000 = true ∧ inB (Y k) 0 1000000000 = true ∧ 0 < k ∧ X (k - 1) < X k ∧ Y (k - 1) ≤ Y k) := by
  unfold okAt
  cases h1 : inB (X k) 0 1000000000
  · simp
  cases h2 : inB (Y k) 0 1000000000
  · simp
  rcases Nat.eq_zero_or_pos k with h3 | h3
  · simp [h3]
  by_cases h4 : X (k - 1) < X k
  · by_cases h5 : Y (k - 1) ≤ Y k
    · simp [h4, h5, h3]
    · have h5' : Y k < Y (k - 1) := by omega
      simp [h4, h5, h3, h5']; omega
  · have h4' : X k ≤ X (k - 1) := by omega
    simp [h4, h3, h4']; omega

theorem amount_impl (s : Int) (w : World) :
    Calls Tryd.prog 83 #[.int .i64 s] w fun e w' => e = .returned (.bool (inB s 0 1000000000)) ∧ w = w' := by
  by_cases h1 : 0 ≤ s
  · by_cases h2 : s ≤ 1000000000
    · go_enter Tryd.func83, Tryd.ntmps83
      go_wp2
      go_ret
      exact ⟨ret_bool (inB_yes h1 (by omega)).symm, rfl⟩
    · have h2' : 1000000000 < s := by omega
      go_enter Tryd.func83, Tryd.ntmps83
      go_wp2
      go_ret
      exact ⟨ret_bool (inB_no (Or.inr (by omega))).symm, rfl⟩
  · have h1' : s < 0 := by omega
    go_enter Tryd.func83, Tryd.ntmps83
    go_wp2
    go_ret
    exact ⟨ret_bool (inB_no (Or.inl h1')).symm, rfl⟩
end Go.Proofs.YtclofbknbfmmlaaDoor.C1
