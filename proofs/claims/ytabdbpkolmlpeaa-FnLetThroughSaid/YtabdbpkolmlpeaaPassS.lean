/- PassOn of the model. (written by wip/genpass.py) -/
import Derived.Test.YtabdbpkolmlpeaaPassI
namespace Go.Proofs.Ytabdbpkolmlpeaa.C1
open Go.ChangeShapes Go.WideShapes Go.ChangeAt Go.RowKit
set_option linter.unusedVariables false

end Go.Proofs.Ytabdbpkolmlpeaa.C1
