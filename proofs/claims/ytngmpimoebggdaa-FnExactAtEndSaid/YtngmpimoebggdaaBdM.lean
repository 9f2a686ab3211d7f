/- Bounds of levels, draughts and speeds. -/
import Derived.Test.YtngmpimoebggdaaTrnM
import Derived.Test.YtngmpimoebggdaaReachM
namespace Go.Proofs.Ytngmpimoebggdaa.C1
open Go.ChangeShapes Go.WideShapes Go.ChangeAt Go.RowKit
set_option linter.unusedVariables false

theorem leastFrom_bd (f : Int → Bool) : ∀ (m : Nat) (lo : Int), lo ≤ leastFrom f lo m ∧ leastFrom f lo m ≤ lo + m := by
  intro m
  induction m with
  | zero => intro lo; unfold leastFrom; omega
  | succ m ih =>
    intro lo
    unfold leastFrom
    have := ih (lo + 1)
    split
    · omega
    · omega
theorem levelR_bd (r : Rc) : 0 ≤ levelR r ∧ levelR r ≤ 1000000000 := by
  unfold levelR
  split
  · rename_i h
    have ht := (rOk_iff.1 h).tab
    unfold tabOk at ht
    rw [Bool.and_eq_true, inB_iff] at ht
    have hx : ∀ i, i < r.n → 0 ≤ r.X i ∧ r.X i ≤ 1000000000 := fun i hi => by
      have h1 := okTo_iff.1 ht.2 i hi
      unfold okAt at h1
      simp only [Bool.and_eq_true, inB_iff] at h1
      exact h1.1.1
    have h0 := hx 0 (by omega)
    have h1 := hx (r.n - 1) (by omega)
    split
    · rename_i hp
      have h2 : r.X 0 ≤ placeZ r.n r.X r.Y r.v := by unfold placeZ; rw [if_pos hp]; exact (leastFrom_bd _ _ _).1
      have h3 : placeZ r.n r.X r.Y r.v ≤ r.X 0 + ((r.X (r.n - 1) - r.X 0).toNat : Int) := by unfold placeZ; rw [if_pos hp]; exact (leastFrom_bd _ _ _).2
      omega
    · exact h1
  · omega
theorem draT_bd (T : List (List Bt)) : 0 ≤ draT T ∧ draT T ≤ 100 := by
  unfold draT
  split
  · rename_i h
    have := fk_max (g := Bt.d) (L := bts T) (s := 100) (by omega) (fun b hb => ((tOk_iff.1 h).ok b hb).d1) (bts T).length
    rw [fk_end] at this
    exact this
  · omega
theorem speT_bd (T : List (List Bt)) : 0 ≤ speT T ∧ speT T ≤ 50 := by
  unfold speT
  split
  · rename_i h
    have hI := tOk_iff.1 h
    have := fk_min (g := Bt.s) (L := bts T) (a := 50) (lo := 0) (by omega) (fun b hb => by have := (hI.ok b hb).s0; omega) (bts T).length
    rw [fk_end] at this
    exact ⟨this.1, this.2⟩
  · omega
theorem speT_pos {T : List (List Bt)} (h : tOk T = true) : 1 ≤ speT T := by
  unfold speT
  rw [if_pos h]
  have hI := tOk_iff.1 h
  have := fk_min (g := Bt.s) (L := bts T) (a := 50) (lo := 1) (by omega) (fun b hb => (hI.ok b hb).s0) (bts T).length
  rw [fk_end] at this
  exact this.1
theorem draT_pos {T : List (List Bt)} (h : tOk T = true) : 1 ≤ draT T := by
  unfold draT
  rw [if_pos h]
  have hI := tOk_iff.1 h
  obtain ⟨b, hb⟩ := get_of (L := bts T) (k := 0) (by have := hI.n0; omega)
  have h1 := (hI.ok b (mem_of hb)).d0
  have h2 : ∀ (L : List Bt) (a : Int), a ≤ L.foldl (fun n b => max n b.d) a ∧ ∀ x ∈ L, x.d ≤ L.foldl (fun n b => max n b.d) a := by
    intro L
    induction L with
    | nil => intro a; exact ⟨Int.le_refl _, fun x hx => by cases hx⟩
    | cons y L ih =>
      intro a
      obtain ⟨i1, i2⟩ := ih (max a y.d)
      refine ⟨by show a ≤ L.foldl _ (max a y.d); omega, fun x hx => ?_⟩
      show x.d ≤ L.foldl _ (max a y.d)
      rcases List.mem_cons.1 hx with rfl | hx
      · omega
      · exact i2 x hx
  have := (h2 (bts T) 0).2 b (mem_of hb)
  exact Int.le_trans h1 this
end Go.Proofs.Ytngmpimoebggdaa.C1
