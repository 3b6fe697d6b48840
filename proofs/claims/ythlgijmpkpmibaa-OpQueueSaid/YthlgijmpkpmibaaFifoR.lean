/- Contracts of the document's functions of layer 3: numbers' lists, and queues, held against each other. -/
import Derived.Test.YthlgijmpkpmibaaFifoF
import Derived.Test.YthlgijmpkpmibaaInts
import Derived.LoopTactic
import Derived.Lib.Hide
namespace Go.Proofs.Ythlgijmpkpmibaa
set_option linter.unusedVariables false
set_option linter.unusedSimpArgs false
open Go.ChangeShapes Go.WideShapes Go.ChangeAt Go.RowKit

end Go.Proofs.Ythlgijmpkpmibaa
