/- The exact laws of the inverse and the quotient; the laws on drawn numbers are in another text. -/
import Derived.Test.YtoeklalhbkdjnaaInv
namespace Go.Proofs.Ytoeklalhbkdjnaa
open Go.RowKit
/-- A quotient: -1 where one of the two is no number of the field. -/
def fdiv (a b : Int) : Int := if (0 ≤ a ∧ a < 2147483647) ∧ (0 ≤ b ∧ b < 2147483647) then a * M.pw b 2147483645 % 2147483647 else -1

end Go.Proofs.Ytoeklalhbkdjnaa
