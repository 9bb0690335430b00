/- Sums, differences, multiples of linear combinations: the model's functions. -/
import Derived.Test.YtklcgclaeafoeaaB17
namespace Go.Proofs.Ytklcgclaeafoeaa.L
open Go.RowKit Go.Shelf Go.Proofs.Ytklcgclaeafoeaa.S
end Go.Proofs.Ytklcgclaeafoeaa.L
