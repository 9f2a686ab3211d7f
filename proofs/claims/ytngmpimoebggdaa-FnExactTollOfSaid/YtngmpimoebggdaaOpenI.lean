/- A slice of integers inside a law's argument, opened. -/
import Derived.Test.YtngmpimoebggdaaOpen
import Derived.Test.YtngmpimoebggdaaInts
import Derived.Lib.SmallJoins
namespace Go.Proofs.Ytngmpimoebggdaa.C1
open Go.ChangeShapes Go.WideShapes Go.ChangeAt Go.RowKit Go.Deep Go.Joins Go.Proofs.Ytngmpimoebggdaa.Opened
set_option linter.unusedVariables false

section
variable {H : Type} {enc : TypeId × Value → H} {w : World} {base : Nat} {spare : Nat → Bool} {held : Bool}
theorem ints_of_s {fuel : Nat} {v : Value} {x : DataW H × List MemPlace} (h : DataW.trod enc Try.prog w base spare held fuel 47 [v] = some x) :
    ∃ (A : Option Addr) (n c : Nat) (Z : Nat → Int), v = .slice A n c ∧ n ≤ 9223372036854775807 ∧ SrcI w A n Z := by
  rcases open_slice1 Try.underlying47 (by kernel_rfl) h with ⟨hcs, _⟩ | ⟨a, len, cap, m, fu, V, D, Pl, hcs, _, hl, hm, hmm, _, hi⟩
  · have hv : v = .slice none 0 0 := by simpa using hcs
    exact ⟨none, 0, 0, fun _ => 0, hv, by omega, fun h => absurd h (by omega)⟩
  · have hv : v = .slice (some a) len cap := by simpa using hcs
    have hle : len ≤ m := by rw [hmm]; split <;> omega
    obtain ⟨f, hf⟩ := choose_lt (α := Int) (n := len) (p := fun i z => w.cell? (a.add i) = some (.int .i64 z)) (fun i hin => by
      obtain ⟨hc, htr⟩ := hi i (by omega)
      obtain ⟨z, hz, _, hw⟩ := DataW.trod_int Try.underlying3 htr
      have hz' : V i = .int .i64 z := (List.cons.inj hz).1
      exact ⟨z, by rw [hc, hz']⟩)
    refine ⟨some a, len, cap, f, hv, ?_, fun _ => ⟨a, rfl, fun i hin => hf i hin⟩⟩
    unfold maxLen at hm; omega
end
end Go.Proofs.Ytngmpimoebggdaa.C1
