/- Sums, differences, multiples of linear combinations: the model's functions. -/
import Derived.Test.YtklcgclaeafoeaaGreatB17
namespace Go.Proofs.YtklcgclaeafoeaaGreat.L
open Go.RowKit Go.Shelf Go.Proofs.YtklcgclaeafoeaaGreat.S
end Go.Proofs.YtklcgclaeafoeaaGreat.L
