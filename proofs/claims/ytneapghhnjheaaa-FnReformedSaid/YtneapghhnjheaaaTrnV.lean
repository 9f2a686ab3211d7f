/- The measures of a train's boats: of the model. -/
import Derived.Test.YtneapghhnjheaaaTrnU
namespace Go.Proofs.Ytneapghhnjheaaa.C1
open Go.ChangeShapes Go.WideShapes Go.ChangeAt Go.RowKit
set_option linter.unusedVariables false

end Go.Proofs.Ytneapghhnjheaaa.C1
