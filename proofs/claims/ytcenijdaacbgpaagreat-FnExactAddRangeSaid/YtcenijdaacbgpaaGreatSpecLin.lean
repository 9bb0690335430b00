/- Sums, differences, multiples of linear combinations: the model's functions. -/
import Derived.Test.YtcenijdaacbgpaaGreatB17
namespace Go.Proofs.YtcenijdaacbgpaaGreat.L
open Go.RowKit Go.Shelf Go.Proofs.YtcenijdaacbgpaaGreat.S
end Go.Proofs.YtcenijdaacbgpaaGreat.L
