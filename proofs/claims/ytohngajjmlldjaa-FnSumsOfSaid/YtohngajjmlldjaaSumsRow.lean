/- The frame's word on a slice of bytes, for the law on sums. -/
import Derived.Test.YtohngajjmlldjaaSumsOf
import Derived.Test.YtohngajjmlldjaaRow
namespace Go.Proofs.Ytohngajjmlldjaa
theorem sumsRow : True := trivial
end Go.Proofs.Ytohngajjmlldjaa
