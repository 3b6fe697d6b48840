/- The document's look whether two lists of integers are one (sakiaref03.Ints). -/
import Derived.Test.YthlgijmpkpmibaaInt
import Derived.LoopTactic
import Derived.Lib.Hide
namespace Go.Proofs.Ythlgijmpkpmibaa
set_option linter.unusedVariables false
set_option linter.unusedSimpArgs false
open Go.ChangeShapes Go.WideShapes Go.ChangeAt Go.RowKit

end Go.Proofs.Ythlgijmpkpmibaa
