/- Two rows of entries compared by a law. -/
import Derived.Test.YtclofbknbfmmlaaDoorDBk
namespace Go.Proofs.YtclofbknbfmmlaaDoor.C1
open Go.ChangeShapes Go.WideShapes Go.ChangeAt Go.RowKit Go.Proofs.YtclofbknbfmmlaaDoor.Lift
set_option linter.unusedVariables false
set_option maxHeartbeats 2000000 in
set_option maxRecDepth 100000 in
theorem sames (A A' : Option Addr) (c c' : Nat) (L : List En) (w : World) (hn : L.length ≤ 1048576) (hp : Ens w A L) (hp' : Ens w A' L) :
    Calls Tryd.prog 25 #[.slice A L.length c, .slice A' L.length c'] w fun e w' => e = .returned (.bool true) ∧ Below w.heap.size w w' := by
  have HP := vl hp
  have HP' := vl hp'
  clear hp hp'
  go_enter Tryd.func25, Tryd.ntmps25
  go_wp2
  go_loopw [5] (fun i wr => ∃ k : Nat, k ≤ L.length ∧ i = .int .i64 k ∧ Veil (Below w.heap.size w wr)) (fun i _ => L.length - (intOf i).toNat)
  case atStart => exact ⟨0, by omega, rfl, vl (Below.refl _ _)⟩
  case round =>
    obtain ⟨k, hk, rfl, HB⟩ := hrel
    by_cases hlt : k < L.length
    · obtain ⟨b, hb⟩ := get_of hlt
      obtain ⟨g, o, rfl, hc⟩ := HP.out (by omega)
      obtain ⟨g', o', rfl, hc'⟩ := HP'.out (by omega)
      obtain ⟨x0, x1, x2, x3, x4⟩ := (hc k b hb).below HB.out
      obtain ⟨y0, y1, y2, y3, y4⟩ := (hc' k b hb).below HB.out
      clear hc hc'
      go_wp2
      go_still_tail 8, (by kernel_rfl)
      change wpList _ _ _ _ _ wr.drew
      have HB2 := vl HB.out.drew
      go_wp2
      go_roundw
      case rel => exact ⟨k + 1, by omega, by go_num, HB2⟩
      case measure => simp [intOf]; omega
    · obtain rfl : k = L.length := by omega
      go_wp2
      go_ret
      exact ⟨rfl, HB.out⟩
end Go.Proofs.YtclofbknbfmmlaaDoor.C1
