/- PlaceOf: the contracts of the program and of its model. -/
import Derived.Test.YtlaffdfnmpkocaaPlace
namespace Go.Proofs.Ytlaffdfnmpkocaa.C1
open Go.ChangeShapes Go.WideShapes Go.ChangeAt Go.RowKit
set_option linter.unusedVariables false

theorem ret_ib {a b : Int} {c d : Bool} (h : a = b) (h' : c = d) : Ending.returned (.tuple #[.int .i64 a, .bool c]) = .returned (.tuple #[.int .i64 b, .bool d]) := by rw [h, h']
end Go.Proofs.Ytlaffdfnmpkocaa.C1
