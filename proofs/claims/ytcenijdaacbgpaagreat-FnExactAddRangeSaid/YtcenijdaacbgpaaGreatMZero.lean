/- The model's l4zero. -/
import Derived.Test.YtcenijdaacbgpaaGreatYRgn
import Derived.Test.YtcenijdaacbgpaaGreatB15
import Derived.Test.YtcenijdaacbgpaaGreatMGate2
import Derived.Test.YtcenijdaacbgpaaGreatB17
import Derived.Test.YtcenijdaacbgpaaGreatB3
import Derived.Deep.DeepCutAuto
namespace Go.Proofs.YtcenijdaacbgpaaGreat.L
open Go.RowKit Go.Proofs.YtcenijdaacbgpaaGreat.S
set_option linter.unusedVariables false
end Go.Proofs.YtcenijdaacbgpaaGreat.L
