/- Slices of integers: their size, and their marking, whatever they lie in. -/
import Derived.Test.YtclofbknbfmmlaaDoorInts
import Derived.Test.YtclofbknbfmmlaaDoorApp
namespace Go.Proofs.YtclofbknbfmmlaaDoor.C1
open Go.ChangeShapes Go.WideShapes Go.ChangeAt Go.RowKit
set_option linter.unusedVariables false

end Go.Proofs.YtclofbknbfmmlaaDoor.C1
