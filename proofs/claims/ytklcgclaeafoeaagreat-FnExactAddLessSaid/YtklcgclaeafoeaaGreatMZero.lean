/- The model's l4zero. -/
import Derived.Test.YtklcgclaeafoeaaGreatYRgn
import Derived.Test.YtklcgclaeafoeaaGreatB15
import Derived.Test.YtklcgclaeafoeaaGreatMGate2
import Derived.Test.YtklcgclaeafoeaaGreatB17
import Derived.Test.YtklcgclaeafoeaaGreatB3
import Derived.Deep.DeepCutAuto
namespace Go.Proofs.YtklcgclaeafoeaaGreat.L
open Go.RowKit Go.Proofs.YtklcgclaeafoeaaGreat.S
set_option linter.unusedVariables false
end Go.Proofs.YtklcgclaeafoeaaGreat.L
