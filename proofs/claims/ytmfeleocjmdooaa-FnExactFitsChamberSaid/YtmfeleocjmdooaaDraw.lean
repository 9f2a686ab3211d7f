/- The drawing functions of the laws: what is drawn lies in its range, and nothing but the cursor has changed. -/
import Derived.Test.YtmfeleocjmdooaaNum
import Derived.Laws.MakeOwn
import Derived.Deep.OwnRows
import Derived.RegionTactic
namespace Go.Proofs.Ytmfeleocjmdooaa.C1
open Go.ChangeShapes Go.WideShapes Go.ChangeAt Go.RowKit
set_option linter.unusedVariables false

theorem cell_lt' {w : World} {a : Addr} {v : Value} (h : w.cell? a = some v) : a.block < w.heap.size := by
  unfold World.cell? at h
  rcases Nat.lt_or_ge a.block w.heap.size with hl | hl
  · exact hl
  · rw [Array.getElem?_eq_none hl] at h; cases h
/-- A slice of bytes, wherever it lies. -/
def SrcB (w : World) (A : Option Addr) (n : Nat) (f : Nat → Int) : Prop :=
  0 < n → ∃ ad, A = some ad ∧ ∀ j, j < n → w.cell? (ad.add j) = some (.int .u8 (f j)) ∧ 0 ≤ f j ∧ f j ≤ 255
theorem SrcB.below {w w' : World} {A : Option Addr} {n : Nat} {f : Nat → Int} (h : SrcB w A n f) (hb : Below w.heap.size w w') : SrcB w' A n f := fun hn => by
  obtain ⟨ad, e, hc⟩ := h hn
  exact ⟨ad, e, fun i hi => ⟨(hb.cell (cell_lt' (hc i hi).1)).trans (hc i hi).1, (hc i hi).2⟩⟩

theorem big_no (A : Option Addr) (n cap : Nat) (w : World) (h : n ≤ 1048576) :
    Calls Try.prog 26 #[.slice A n cap] w fun e w' => e = .returned (.bool false) ∧ w = w' := by
  have h' : (n : Int) ≤ 1048576 := by omega
  go_enter Try.func26, Try.ntmps26
  go_wp2
  go_ret
  exact ⟨ret_bool (by simp; omega), rfl⟩
theorem big_yes (A : Option Addr) (n cap : Nat) (w : World) (h : 1048576 < n) :
    Calls Try.prog 26 #[.slice A n cap] w fun e w' => e = .returned (.bool true) ∧ w = w' := by
  go_enter Try.func26, Try.ntmps26
  go_wp2
  go_ret
  exact ⟨ret_bool (by simp; omega), rfl⟩

/-- at: a number from 0 to 255. -/
def atZ (n : Nat) (f : Nat → Int) (i : Int) : Int := if n = 0 then 0 else f ((i * 5 + 1) % n).toNat
theorem atZ_bd {w : World} {A : Option Addr} {n : Nat} {f : Nat → Int} (h : SrcB w A n f) (i : Int) : 0 ≤ atZ n f i ∧ atZ n f i ≤ 255 := by
  unfold atZ
  split
  · omega
  · obtain ⟨ad, _, hc⟩ := h (by omega)
    have h1 := Int.emod_nonneg (i * 5 + 1) (by omega : (n : Int) ≠ 0)
    have h2 := Int.emod_lt_of_pos (i * 5 + 1) (by omega : (0 : Int) < n)
    exact (hc _ (by omega)).2
theorem at_law (A : Option Addr) (n cap : Nat) (i : Int) (w : World) (f : Nat → Int) (hn : n ≤ 1048576) (h0 : 0 ≤ i) (h1 : i ≤ 1000000) (hs : SrcB w A n f) :
    Calls Try.prog 38 #[.slice A n cap, .int .i64 i] w fun e w' => e = .returned (.int .i64 (atZ n f i)) ∧ w = w' := by
  rcases Nat.eq_zero_or_pos n with h | h
  · have H := Lib.hid (show atZ n f i = 0 by unfold atZ; rw [if_pos h])
    have e1 : ((n : Int) == 0) = true := by simp [h]
    clear h
    go_enter Try.func38, Try.ntmps38
    go_wp2
    go_ret
    exact ⟨ret_int H.out.symm, rfl⟩
  · have H := Lib.hid (show atZ n f i = f ((i * 5 + 1) % n).toNat by unfold atZ; rw [if_neg (by omega)])
    obtain ⟨ad, rfl, hc⟩ := hs h
    have e1 : ((n : Int) == 0) = false := by simp; omega
    have q1 := Int.emod_nonneg (i * 5 + 1) (by omega : (n : Int) ≠ 0)
    have q2 := Int.emod_lt_of_pos (i * 5 + 1) (by omega : (0 : Int) < n)
    obtain ⟨c0, c1, c2⟩ := hc ((i * 5 + 1) % n).toNat (by omega)
    clear hc
    go_enter Try.func38, Try.ntmps38
    go_wp2
    go_ret
    exact ⟨ret_int H.out.symm, rfl⟩
end Go.Proofs.Ytmfeleocjmdooaa.C1
