/- Slices of integers: their size, and their marking, whatever they lie in. -/
import Derived.Test.YtclofbknbfmmlaaInts
import Derived.Test.YtclofbknbfmmlaaApp
namespace Go.Proofs.Ytclofbknbfmmlaa.C1
open Go.ChangeShapes Go.WideShapes Go.ChangeAt Go.RowKit
set_option linter.unusedVariables false

theorem szIntS_no (A : Option Addr) (n cap : Nat) (w : World) (l : Int) (h1 : 0 ≤ l) (h2 : l ≤ 1048576) (hn : n ≤ 9223372036854775807) (h : l < n) :
    Calls Try.prog 42 #[.slice A n cap, .int .i64 l] w fun e w' => e = .returned (.int .i64 (-1)) ∧ w = w' := by
  go_enter Try.func42, Try.ntmps42
  go_wp2
  go_ret
  exact ⟨rfl, rfl⟩
theorem szIntS_yes (A : Option Addr) (n cap : Nat) (w : World) (l : Int) (h1 : 0 ≤ l) (h2 : l ≤ 1048576) (h : (n : Int) ≤ l) :
    Calls Try.prog 42 #[.slice A n cap, .int .i64 l] w fun e w' => e = .returned (.int .i64 (l - n)) ∧ w = w' := by
  go_enter Try.func42, Try.ntmps42
  go_wp2
  go_ret
  exact ⟨rfl, rfl⟩
end Go.Proofs.Ytclofbknbfmmlaa.C1
