/- ShareOut of the program and of the model, each by one contract: what it returns, and that nothing of what was there is touched. -/
import Derived.Test.YtngmpimoebggdaaShareS
import Derived.Test.YtngmpimoebggdaaInts
namespace Go.Proofs.Ytngmpimoebggdaa.C1
open Go.ChangeShapes Go.WideShapes Go.ChangeAt Go.RowKit Go.Proofs.Ytngmpimoebggdaa.ShareM
set_option linter.unusedVariables false

open Classical in
noncomputable def outN (total : Int) (n : Nat) (W : Nat → Int) : Nat := if Fine total n W then n else 0
open Classical in
noncomputable def outF (total : Int) (n : Nat) (W : Nat → Int) : Nat → Int :=
  if h : ∃ E, Sel (rem total (sumTo W n) W) n (left total (sumTo W n) W n).toNat E then share total n W (Classical.choose h) else fun _ => 0
theorem outN_le (total : Int) (n : Nat) (W : Nat → Int) : outN total n W ≤ n := by
  unfold outN; split <;> omega
theorem outN_yes {total : Int} {n : Nat} {W : Nat → Int} (F : Fine total n W) : outN total n W = n := by classical exact if_pos F
theorem outN_no {total : Int} {n : Nat} {W : Nat → Int} (F : ¬ Fine total n W) : outN total n W = 0 := by classical exact if_neg F
theorem outF_eq {total : Int} {n : Nat} {W : Nat → Int} {E : Nat → Nat} (h : Sel (rem total (sumTo W n) W) n (left total (sumTo W n) W n).toNat E) (i : Nat) : share total n W E i = outF total n W i := by
  have hx : ∃ E, Sel (rem total (sumTo W n) W) n (left total (sumTo W n) W n).toNat E := ⟨E, h⟩
  unfold outF
  rw [dif_pos hx]
  unfold share
  rw [inc_same (D := E) (E := Classical.choose hx) (fun t ht => h.same (Classical.choose_spec hx) t ht) _ (Nat.le_refl _) i]
theorem SrcG.of_rowI {w : World} {A : Option Addr} {n g : Nat} {W : Nat → Int} (h : RowI w A n g W) : SrcG w A n W := fun hn => ⟨g, h.1 hn, h.2⟩
theorem out_spec (total : Int) (A : Option Addr) (n c : Nat) (W : Nat → Int) (w : World) (hn : n ≤ 1048576) (hs : SrcG w A n W) :
    Calls Try.prog 98 #[.int .i64 total, .slice A n c] w fun e w' => (∃ A' cap g, e = .returned (.slice A' (outN total n W) cap) ∧ RowI w' A' (outN total n W) g (outF total n W) ∧ w.heap.size ≤ g ∧ (0 < outN total n W → g < w'.heap.size)) ∧ Below w.heap.size w w' := by
  by_cases F : Fine total n W
  · rw [outN_yes F]
    refine (share_spec total A n c W w hs F).mono ?_
    rintro e w' ⟨⟨A', cap, E, hE, rfl, ho⟩, hb⟩
    have hn0 : 0 < n := by
      rcases Nat.eq_zero_or_pos n with h | h
      · have := F.s; rw [h] at this; exact absurd this (Int.lt_irrefl 0)
      · exact h
    obtain ⟨g, e1, hg, hgl, _⟩ := own_at ho hn0
    refine ⟨⟨A', cap, g, rfl, ⟨fun _ => e1, fun i hi => ?_⟩, hg, fun _ => hgl⟩, hb⟩
    obtain ⟨g', e2, _, _, hc, _⟩ := own_at ho hi
    rw [e1] at e2
    injection e2 with e2
    injection e2 with e2
    subst e2
    rw [hc, ints_at n i _ hi, outF_eq hE]
  · rw [outN_no F]
    refine (share_spec_no total A n c W w hn hs F).mono ?_
    rintro e w' ⟨⟨A', cap, rfl⟩, hb⟩
    exact ⟨⟨A', cap, w.heap.size, rfl, ⟨fun h => absurd h (Nat.lt_irrefl 0), fun i hi => absurd hi (Nat.not_lt_zero i)⟩, Nat.le_refl _, fun h => absurd h (Nat.lt_irrefl 0)⟩, hb⟩
theorem out_impl (total : Int) (A : Option Addr) (n c : Nat) (W : Nat → Int) (w : World) (hn : n ≤ 1048576) (hs : SrcG w A n W) :
    Calls Try.prog 101 #[.int .i64 total, .slice A n c] w fun e w' => (∃ A' cap g, e = .returned (.slice A' (outN total n W) cap) ∧ RowI w' A' (outN total n W) g (outF total n W) ∧ Free w' (outN total n W) g ∧ w.heap.size ≤ g ∧ (0 < outN total n W → g < w'.heap.size)) ∧ Below w.heap.size w w' := by
  by_cases F : Fine total n W
  · rw [outN_yes F]
    refine (share_impl total A n c W w hs F).mono ?_
    rintro e w' ⟨⟨g, E, hE, rfl, hg, hr⟩, hb⟩
    exact ⟨⟨_, _, g, rfl, (RowI.of_row hr).1.congr fun i hi => outF_eq hE i, (RowI.of_row hr).2, hg, fun _ => hr.lt⟩, hb⟩
  · rw [outN_no F]
    refine (share_impl_no total A n c W w hn hs F).mono ?_
    rintro e w' ⟨rfl, rfl⟩
    exact ⟨⟨none, 0, w.heap.size, rfl, ⟨fun h => absurd h (Nat.lt_irrefl 0), fun i hi => absurd hi (Nat.not_lt_zero i)⟩, fun i hi => absurd hi (Nat.not_lt_zero i), Nat.le_refl _, fun h => absurd h (Nat.lt_irrefl 0)⟩, Below.refl _ _⟩
end Go.Proofs.Ytngmpimoebggdaa.C1
