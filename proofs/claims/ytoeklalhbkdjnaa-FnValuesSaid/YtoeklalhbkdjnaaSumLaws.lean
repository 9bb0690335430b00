/- Sums of lists and dot products: the model's functions; the exact laws. -/
import Derived.Test.YtoeklalhbkdjnaaSum
import Derived.Test.YtoeklalhbkdjnaaB6
import Derived.Test.YtoeklalhbkdjnaaInvLaws
namespace Go.Proofs.Ytoeklalhbkdjnaa.S
open Go.RowKit
theorem dec_self (xs : List Int) : decide (xs = xs) = true := decide_eq_true rfl

end Go.Proofs.Ytoeklalhbkdjnaa.S
