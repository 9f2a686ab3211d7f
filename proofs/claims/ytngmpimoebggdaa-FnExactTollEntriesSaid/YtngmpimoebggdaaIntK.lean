/- Slices of integers: their size, and their marking, whatever they lie in. -/
import Derived.Test.YtngmpimoebggdaaInts
import Derived.Test.YtngmpimoebggdaaApp
namespace Go.Proofs.Ytngmpimoebggdaa.C1
open Go.ChangeShapes Go.WideShapes Go.ChangeAt Go.RowKit
set_option linter.unusedVariables false

theorem szIntS_no (A : Option Addr) (n cap : Nat) (w : World) (l : Int) (h1 : 0 ≤ l) (h2 : l ≤ 1048576) (hn : n ≤ 9223372036854775807) (h : l < n) :
    Calls Try.prog 78 #[.slice A n cap, .int .i64 l] w fun e w' => e = .returned (.int .i64 (-1)) ∧ w = w' := by
  go_enter Try.func78, Try.ntmps78
  go_wp2
  go_ret
  exact ⟨rfl, rfl⟩
theorem szIntS_yes (A : Option Addr) (n cap : Nat) (w : World) (l : Int) (h1 : 0 ≤ l) (h2 : l ≤ 1048576) (h : (n : Int) ≤ l) :
    Calls Try.prog 78 #[.slice A n cap, .int .i64 l] w fun e w' => e = .returned (.int .i64 (l - n)) ∧ w = w' := by
  go_enter Try.func78, Try.ntmps78
  go_wp2
  go_ret
  exact ⟨rfl, rfl⟩
theorem touch_new {w w' : World} {B L : Nat} (h : w.grownBy w' (some w.heap.size)) : Touch w w' B L := ⟨h.os, h.tape, h.output, h.size, fun k hk _ => h.block k hk (by intro e; injection e with e; omega)⟩
theorem RowI.vac {w : World} {A : Option Addr} {n g : Nat} {Z : Nat → Int} (h : ¬ 0 < n) : RowI w A n g Z := ⟨fun h' => absurd h' h, fun i hi => absurd hi (by omega)⟩
theorem Free.vac {w : World} {n g : Nat} (h : ¬ 0 < n) : Free w n g := fun i hi => absurd hi (by omega)
theorem markI (A : Option Addr) (n c g K : Nat) (Z : Nat → Int) (w : World) (hn : n ≤ 1048576) (hK : K ≤ 1000000000) (ha : RowI w A n g Z) (hf : Free w n g) :
    Calls Try.prog 48 #[.slice A n c, .int .i64 (K : Int)] w fun e w' => e = .returned (.int .i64 ((K + n : Nat) : Int)) ∧ RowI w' A n g (fun i => ((K + i : Nat) : Int)) ∧ Free w' n g ∧ ∀ B L, (0 < n → B ≤ g ∧ g < L) → Touch w w' B L := by
  by_cases h : 0 < n
  · exact (markIntS A n c g K Z w hn hK ha hf).mono fun e w' ⟨h1, h2, h3, h4⟩ => ⟨h1, h2, h3, fun B L hBL => Touch.of_grown h4 (hBL h).1 (hBL h).2⟩
  · exact (markIntS A n c w.heap.size K Z w hn hK (RowI.vac h) (Free.vac h)).mono fun e w' ⟨h1, h2, h3, h4⟩ => ⟨h1, RowI.vac h, Free.vac h, fun _ _ _ => touch_new h4⟩
end Go.Proofs.Ytngmpimoebggdaa.C1
