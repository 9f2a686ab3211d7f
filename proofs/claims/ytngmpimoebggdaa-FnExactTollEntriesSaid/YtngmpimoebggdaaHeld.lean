/- A region that is walked by hand: what holds of the world may be strengthened on the way. -/
import Derived.Test.YtngmpimoebggdaaNum
import Derived.Deep.RegionHeld3
namespace Go.Proofs.Ytngmpimoebggdaa.C1
open Go
set_option linter.unusedVariables false

theorem wpAnyH_strong {P : Program} {ops : Array Oper} {Q : Exit → Act → World → Prop} {md : Region.Mode} {S S' : World → Prop} (h : ∀ w, S' w → S w) :
    ∀ {fuel : Nat} {listed : Array Bool} {a : Act} {w : World}, wpAnyH P md ops Q S' fuel listed a w → wpAnyH P md ops Q S fuel listed a w := by
  intro fuel
  induction fuel with
  | zero => intro listed a w hh; exact hh
  | succ fuel ih =>
    intro listed a w hh
    exact ⟨hh.1, fun i hi => wpOp_mono (fun a' w' ⟨h1, h2⟩ => ⟨h w' h1, ih h2⟩) (hh.2 i hi)⟩
end Go.Proofs.Ytngmpimoebggdaa.C1
