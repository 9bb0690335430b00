/- AddMux and AddXor: the program (written by tools/gen/addl.py). -/
import Derived.Test.YtcenijdaacbgpaaB13
import Derived.Test.YtcenijdaacbgpaaBGate
import Derived.Conc.MuLone
namespace Go.Proofs.Ytcenijdaacbgpaa.L
open Go.RowKit Go.Proofs.Ytcenijdaacbgpaa.S
set_option linter.unusedVariables false
end Go.Proofs.Ytcenijdaacbgpaa.L
