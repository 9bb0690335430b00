/- Inverses behind a sync.Once: the first request computes, each later one finds what was kept; what FInv returns. -/
import Derived.Test.YtoeklalhbkdjnaaB1
import Derived.Defers
import Derived.Laws.Pointers
import Derived.Laws.LoneSync
import Derived.RegionTactic
import Derived.RegionCalls
import Derived.ChangeAlike
import Derived.Laws.NewBlocks
import Derived.Deep.RegionWith
import Derived.Below
namespace Go.Proofs.Ytoeklalhbkdjnaa
open Go.RowKit
end Go.Proofs.Ytoeklalhbkdjnaa
