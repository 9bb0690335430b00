/-
  No cell of these rows narrows 'for every input' (looked for: loops, veiled, ifaces, maps, wideKeys, modest, calm, conditions, laid).
  DERIVED. THE GIVEN ROWS OF THIS SEAT. 12 by the template 'for every input the law returns true; each argument reads behind the call as it read before'; 0 by the template 'total and deterministic' (their statements: YtohngajjmlldjaaTotals.lean).
  GIVEN WITH THE SEED: the statements are not yours to turn. If you find one false, say at which input.
  Laid BY PROGRAM, IN A SANDBOX (cutbox-rows.mjs): the forced cells as the released guide's own fill.sh prints them over the translation 2166d96b94ec670a… (all of the seat's roots in one cut). By AI agents, Wed Nov 11 2026. No macro, syntax, notation, axiom, sorry.
-/
import Derived.Test.YtohngajjmlldjaaChecked
import GoSem.Claim
import GoSem.ClaimJoined
import GoSem.ClaimMapViews
import Derived.JoinedTies
import Derived.KernelRfl
namespace Go.Proofs.Ytohngajjmlldjaa
/- THE CELL 'sum', in the pinned program and in every row, IS THE sha256 OF THE DUMP (.gsa) THAT YtohngajjmlldjaaProg.lean LOADS. Nothing in Lean hashes anything: it is a label: what it is worth is what the hold of that sum in a sandbox is worth. -/
noncomputable def Try.pinned : Pinned := { name := "ytohngajjmlldjaa", sum := "2166d96b94ec670aad818e23345fda45099a44890616628e845c0cc5f1964e96", checked := Try.checked }
namespace Rows
def none {H : Type} : Left H := { results := [], args := [] }

/-- 'laws.FnFields': WHATEVER THE INPUT: true; the input reads as it did. -/
def fnFieldsSpec : ChangeSpec := { name := "fnFields", fn := fun _ => fun
  | [d] => { results := [.lit (.bool true)], args := [d] }
  | _ => none }
def fnFieldsRow : OpenClaim := { program := "ytohngajjmlldjaa", sum := "2166d96b94ec670aad818e23345fda45099a44890616628e845c0cc5f1964e96", func := "loop.example/g00543/laws.FnFields", spec := "fnFields", inPlace := ["sync/atomic.LoadUint32", "(*internal/sync.Mutex).Lock", "internal/race.Disable", "sync/atomic.CompareAndSwapInt32", "internal/race.Enable", "internal/race.Acquire", "(*internal/sync.Mutex).lockSlow", "internal/sync.runtime_canSpin", "internal/sync.runtime_doSpin", "internal/sync.throw", "internal/sync.runtime_nanotime", "internal/sync.runtime_SemacquireMutex", "sync/atomic.AddInt32", "(*internal/sync.Mutex).Unlock", "internal/race.ReleaseMerge", "(*internal/sync.Mutex).unlockSlow", "internal/sync.fatal", "internal/sync.runtime_Semrelease", "sync/atomic.StoreUint32"], unfollowed := true, recurses := true, apart := false }
def FnFieldsSaid : Prop := fnFieldsRow.holds Try.pinned (OpenSpec.ofChange fnFieldsSpec)

/-- ITS FALSE NEIGHBOUR: 'it returns false'. Refute it at one input. -/
def fnFieldsWrong : ChangeSpec := { name := "fnFields", fn := fun _ => fun
  | [d] => { results := [.lit (.bool false)], args := [d] }
  | _ => none }
def FnFieldsWrongFalsely : Prop := fnFieldsRow.holds Try.pinned (OpenSpec.ofChange fnFieldsWrong)

/-- 'laws.FnPows': WHATEVER THE INPUT: true; the input reads as it did. -/
def fnPowsSpec : ChangeSpec := { name := "fnPows", fn := fun _ => fun
  | [d] => { results := [.lit (.bool true)], args := [d] }
  | _ => none }
def fnPowsRow : OpenClaim := { program := "ytohngajjmlldjaa", sum := "2166d96b94ec670aad818e23345fda45099a44890616628e845c0cc5f1964e96", func := "loop.example/g00543/laws.FnPows", spec := "fnPows", inPlace := ["sync/atomic.LoadUint32", "(*internal/sync.Mutex).Lock", "internal/race.Disable", "sync/atomic.CompareAndSwapInt32", "internal/race.Enable", "internal/race.Acquire", "(*internal/sync.Mutex).lockSlow", "internal/sync.runtime_canSpin", "internal/sync.runtime_doSpin", "internal/sync.throw", "internal/sync.runtime_nanotime", "internal/sync.runtime_SemacquireMutex", "sync/atomic.AddInt32", "(*internal/sync.Mutex).Unlock", "internal/race.ReleaseMerge", "(*internal/sync.Mutex).unlockSlow", "internal/sync.fatal", "internal/sync.runtime_Semrelease", "sync/atomic.StoreUint32"], unfollowed := true, recurses := true, apart := false }
def FnPowsSaid : Prop := fnPowsRow.holds Try.pinned (OpenSpec.ofChange fnPowsSpec)

/-- ITS FALSE NEIGHBOUR: 'it returns false'. Refute it at one input. -/
def fnPowsWrong : ChangeSpec := { name := "fnPows", fn := fun _ => fun
  | [d] => { results := [.lit (.bool false)], args := [d] }
  | _ => none }
def FnPowsWrongFalsely : Prop := fnPowsRow.holds Try.pinned (OpenSpec.ofChange fnPowsWrong)

/-- 'laws.FnSumsOf': WHATEVER THE INPUT: true; the input reads as it did. -/
def fnSumsOfSpec : ChangeSpec := { name := "fnSumsOf", fn := fun _ => fun
  | [d] => { results := [.lit (.bool true)], args := [d] }
  | _ => none }
def fnSumsOfRow : OpenClaim := { program := "ytohngajjmlldjaa", sum := "2166d96b94ec670aad818e23345fda45099a44890616628e845c0cc5f1964e96", func := "loop.example/g00543/laws.FnSumsOf", spec := "fnSumsOf", inPlace := ["sync/atomic.LoadUint32", "(*internal/sync.Mutex).Lock", "internal/race.Disable", "sync/atomic.CompareAndSwapInt32", "internal/race.Enable", "internal/race.Acquire", "(*internal/sync.Mutex).lockSlow", "internal/sync.runtime_canSpin", "internal/sync.runtime_doSpin", "internal/sync.throw", "internal/sync.runtime_nanotime", "internal/sync.runtime_SemacquireMutex", "sync/atomic.AddInt32", "(*internal/sync.Mutex).Unlock", "internal/race.ReleaseMerge", "(*internal/sync.Mutex).unlockSlow", "internal/sync.fatal", "internal/sync.runtime_Semrelease", "sync/atomic.StoreUint32"], unfollowed := true, recurses := true, apart := false }
def FnSumsOfSaid : Prop := fnSumsOfRow.holds Try.pinned (OpenSpec.ofChange fnSumsOfSpec)

/-- ITS FALSE NEIGHBOUR: 'it returns false'. Refute it at one input. -/
def fnSumsOfWrong : ChangeSpec := { name := "fnSumsOf", fn := fun _ => fun
  | [d] => { results := [.lit (.bool false)], args := [d] }
  | _ => none }
def FnSumsOfWrongFalsely : Prop := fnSumsOfRow.holds Try.pinned (OpenSpec.ofChange fnSumsOfWrong)

/-- 'laws.FnExactFOk': WHATEVER THE INPUT: true; the input reads as it did. -/
def fnExactFOkSpec : ChangeSpec := { name := "fnExactFOk", fn := fun _ => fun
  | [d] => { results := [.lit (.bool true)], args := [d] }
  | _ => none }
def fnExactFOkRow : OpenClaim := { program := "ytohngajjmlldjaa", sum := "2166d96b94ec670aad818e23345fda45099a44890616628e845c0cc5f1964e96", func := "loop.example/g00543/laws.FnExactFOk", spec := "fnExactFOk", apart := false }
def FnExactFOkSaid : Prop := fnExactFOkRow.holds Try.pinned (OpenSpec.ofChange fnExactFOkSpec)

/-- ITS FALSE NEIGHBOUR: 'it returns false'. Refute it at one input. -/
def fnExactFOkWrong : ChangeSpec := { name := "fnExactFOk", fn := fun _ => fun
  | [d] => { results := [.lit (.bool false)], args := [d] }
  | _ => none }
def FnExactFOkWrongFalsely : Prop := fnExactFOkRow.holds Try.pinned (OpenSpec.ofChange fnExactFOkWrong)

/-- 'laws.FnExactFOf': WHATEVER THE INPUT: true; the input reads as it did. -/
def fnExactFOfSpec : ChangeSpec := { name := "fnExactFOf", fn := fun _ => fun
  | [d] => { results := [.lit (.bool true)], args := [d] }
  | _ => none }
def fnExactFOfRow : OpenClaim := { program := "ytohngajjmlldjaa", sum := "2166d96b94ec670aad818e23345fda45099a44890616628e845c0cc5f1964e96", func := "loop.example/g00543/laws.FnExactFOf", spec := "fnExactFOf", apart := false }
def FnExactFOfSaid : Prop := fnExactFOfRow.holds Try.pinned (OpenSpec.ofChange fnExactFOfSpec)

/-- ITS FALSE NEIGHBOUR: 'it returns false'. Refute it at one input. -/
def fnExactFOfWrong : ChangeSpec := { name := "fnExactFOf", fn := fun _ => fun
  | [d] => { results := [.lit (.bool false)], args := [d] }
  | _ => none }
def FnExactFOfWrongFalsely : Prop := fnExactFOfRow.holds Try.pinned (OpenSpec.ofChange fnExactFOfWrong)

/-- 'laws.FnExactFAdd': WHATEVER THE INPUT: true; the input reads as it did. -/
def fnExactFAddSpec : ChangeSpec := { name := "fnExactFAdd", fn := fun _ => fun
  | [d1, d2] => { results := [.lit (.bool true)], args := [d1, d2] }
  | _ => none }
def fnExactFAddRow : OpenClaim := { program := "ytohngajjmlldjaa", sum := "2166d96b94ec670aad818e23345fda45099a44890616628e845c0cc5f1964e96", func := "loop.example/g00543/laws.FnExactFAdd", spec := "fnExactFAdd", apart := false }
def FnExactFAddSaid : Prop := fnExactFAddRow.holds Try.pinned (OpenSpec.ofChange fnExactFAddSpec)

/-- ITS FALSE NEIGHBOUR: 'it returns false'. Refute it at one input. -/
def fnExactFAddWrong : ChangeSpec := { name := "fnExactFAdd", fn := fun _ => fun
  | [d1, d2] => { results := [.lit (.bool false)], args := [d1, d2] }
  | _ => none }
def FnExactFAddWrongFalsely : Prop := fnExactFAddRow.holds Try.pinned (OpenSpec.ofChange fnExactFAddWrong)

/-- 'laws.FnExactFSub': WHATEVER THE INPUT: true; the input reads as it did. -/
def fnExactFSubSpec : ChangeSpec := { name := "fnExactFSub", fn := fun _ => fun
  | [d1, d2] => { results := [.lit (.bool true)], args := [d1, d2] }
  | _ => none }
def fnExactFSubRow : OpenClaim := { program := "ytohngajjmlldjaa", sum := "2166d96b94ec670aad818e23345fda45099a44890616628e845c0cc5f1964e96", func := "loop.example/g00543/laws.FnExactFSub", spec := "fnExactFSub", apart := false }
def FnExactFSubSaid : Prop := fnExactFSubRow.holds Try.pinned (OpenSpec.ofChange fnExactFSubSpec)

/-- ITS FALSE NEIGHBOUR: 'it returns false'. Refute it at one input. -/
def fnExactFSubWrong : ChangeSpec := { name := "fnExactFSub", fn := fun _ => fun
  | [d1, d2] => { results := [.lit (.bool false)], args := [d1, d2] }
  | _ => none }
def FnExactFSubWrongFalsely : Prop := fnExactFSubRow.holds Try.pinned (OpenSpec.ofChange fnExactFSubWrong)

/-- 'laws.FnExactFMul': WHATEVER THE INPUT: true; the input reads as it did. -/
def fnExactFMulSpec : ChangeSpec := { name := "fnExactFMul", fn := fun _ => fun
  | [d1, d2] => { results := [.lit (.bool true)], args := [d1, d2] }
  | _ => none }
def fnExactFMulRow : OpenClaim := { program := "ytohngajjmlldjaa", sum := "2166d96b94ec670aad818e23345fda45099a44890616628e845c0cc5f1964e96", func := "loop.example/g00543/laws.FnExactFMul", spec := "fnExactFMul", apart := false }
def FnExactFMulSaid : Prop := fnExactFMulRow.holds Try.pinned (OpenSpec.ofChange fnExactFMulSpec)

/-- ITS FALSE NEIGHBOUR: 'it returns false'. Refute it at one input. -/
def fnExactFMulWrong : ChangeSpec := { name := "fnExactFMul", fn := fun _ => fun
  | [d1, d2] => { results := [.lit (.bool false)], args := [d1, d2] }
  | _ => none }
def FnExactFMulWrongFalsely : Prop := fnExactFMulRow.holds Try.pinned (OpenSpec.ofChange fnExactFMulWrong)

/-- 'laws.FnExactFPow': WHATEVER THE INPUT: true; the input reads as it did. -/
def fnExactFPowSpec : ChangeSpec := { name := "fnExactFPow", fn := fun _ => fun
  | [d1, d2] => { results := [.lit (.bool true)], args := [d1, d2] }
  | _ => none }
def fnExactFPowRow : OpenClaim := { program := "ytohngajjmlldjaa", sum := "2166d96b94ec670aad818e23345fda45099a44890616628e845c0cc5f1964e96", func := "loop.example/g00543/laws.FnExactFPow", spec := "fnExactFPow", apart := false }
def FnExactFPowSaid : Prop := fnExactFPowRow.holds Try.pinned (OpenSpec.ofChange fnExactFPowSpec)

/-- ITS FALSE NEIGHBOUR: 'it returns false'. Refute it at one input. -/
def fnExactFPowWrong : ChangeSpec := { name := "fnExactFPow", fn := fun _ => fun
  | [d1, d2] => { results := [.lit (.bool false)], args := [d1, d2] }
  | _ => none }
def FnExactFPowWrongFalsely : Prop := fnExactFPowRow.holds Try.pinned (OpenSpec.ofChange fnExactFPowWrong)

/-- 'laws.FnExactFInv': WHATEVER THE INPUT: true; the input reads as it did. -/
def fnExactFInvSpec : ChangeSpec := { name := "fnExactFInv", fn := fun _ => fun
  | [d] => { results := [.lit (.bool true)], args := [d] }
  | _ => none }
def fnExactFInvRow : OpenClaim := { program := "ytohngajjmlldjaa", sum := "2166d96b94ec670aad818e23345fda45099a44890616628e845c0cc5f1964e96", func := "loop.example/g00543/laws.FnExactFInv", spec := "fnExactFInv", inPlace := ["sync/atomic.LoadUint32", "(*internal/sync.Mutex).Lock", "internal/race.Disable", "sync/atomic.CompareAndSwapInt32", "internal/race.Enable", "internal/race.Acquire", "(*internal/sync.Mutex).lockSlow", "internal/sync.runtime_canSpin", "internal/sync.runtime_doSpin", "internal/sync.throw", "internal/sync.runtime_nanotime", "internal/sync.runtime_SemacquireMutex", "sync/atomic.AddInt32", "(*internal/sync.Mutex).Unlock", "internal/race.ReleaseMerge", "(*internal/sync.Mutex).unlockSlow", "internal/sync.fatal", "internal/sync.runtime_Semrelease", "sync/atomic.StoreUint32"], unfollowed := true, recurses := true, apart := false }
def FnExactFInvSaid : Prop := fnExactFInvRow.holds Try.pinned (OpenSpec.ofChange fnExactFInvSpec)

/-- ITS FALSE NEIGHBOUR: 'it returns false'. Refute it at one input. -/
def fnExactFInvWrong : ChangeSpec := { name := "fnExactFInv", fn := fun _ => fun
  | [d] => { results := [.lit (.bool false)], args := [d] }
  | _ => none }
def FnExactFInvWrongFalsely : Prop := fnExactFInvRow.holds Try.pinned (OpenSpec.ofChange fnExactFInvWrong)

/-- 'laws.FnExactFSigned': WHATEVER THE INPUT: true; the input reads as it did. -/
def fnExactFSignedSpec : ChangeSpec := { name := "fnExactFSigned", fn := fun _ => fun
  | [d] => { results := [.lit (.bool true)], args := [d] }
  | _ => none }
def fnExactFSignedRow : OpenClaim := { program := "ytohngajjmlldjaa", sum := "2166d96b94ec670aad818e23345fda45099a44890616628e845c0cc5f1964e96", func := "loop.example/g00543/laws.FnExactFSigned", spec := "fnExactFSigned", apart := false }
def FnExactFSignedSaid : Prop := fnExactFSignedRow.holds Try.pinned (OpenSpec.ofChange fnExactFSignedSpec)

/-- ITS FALSE NEIGHBOUR: 'it returns false'. Refute it at one input. -/
def fnExactFSignedWrong : ChangeSpec := { name := "fnExactFSigned", fn := fun _ => fun
  | [d] => { results := [.lit (.bool false)], args := [d] }
  | _ => none }
def FnExactFSignedWrongFalsely : Prop := fnExactFSignedRow.holds Try.pinned (OpenSpec.ofChange fnExactFSignedWrong)

/-- 'laws.FnExactFNeg': WHATEVER THE INPUT: true; the input reads as it did. -/
def fnExactFNegSpec : ChangeSpec := { name := "fnExactFNeg", fn := fun _ => fun
  | [d] => { results := [.lit (.bool true)], args := [d] }
  | _ => none }
def fnExactFNegRow : OpenClaim := { program := "ytohngajjmlldjaa", sum := "2166d96b94ec670aad818e23345fda45099a44890616628e845c0cc5f1964e96", func := "loop.example/g00543/laws.FnExactFNeg", spec := "fnExactFNeg", apart := false }
def FnExactFNegSaid : Prop := fnExactFNegRow.holds Try.pinned (OpenSpec.ofChange fnExactFNegSpec)

/-- ITS FALSE NEIGHBOUR: 'it returns false'. Refute it at one input. -/
def fnExactFNegWrong : ChangeSpec := { name := "fnExactFNeg", fn := fun _ => fun
  | [d] => { results := [.lit (.bool false)], args := [d] }
  | _ => none }
def FnExactFNegWrongFalsely : Prop := fnExactFNegRow.holds Try.pinned (OpenSpec.ofChange fnExactFNegWrong)

/- THE SECOND FORM. 'bulk': how many values and letters a reading holds, each counted each time it is reached (what is shared counts as often as it is met; a slice's spare places count too). A statement '..UptoSaid' is the law's where the arguments, and the package variables that the reading takes, are together of bulk at most 1048576: NARROWER than '..Said'. Prove '..Said' where nothing that the law and all that it calls make is longer than what came in: it says more and counts as full. Else prove '..UptoSaid'. A law counts once. -/
mutual
def uptoBulk {H : Type} : DataW H → Nat
  | .lit (.string bytes) => bytes.length + 1
  | .lit _ => 1
  | .nil => 1
  | .ptr d => uptoBulk d + 1
  | .slice elems spare => uptoBulkAll elems + uptoBulkAll spare + 1
  | .agg parts => uptoBulkAll parts + 1
  | .iface _ d => uptoBulk d + 1
  | .map entries => uptoBulkEntries entries + 1
  | .held _ => 1
def uptoBulkAll {H : Type} : List (DataW H) → Nat
  | [] => 0
  | d :: r => uptoBulk d + uptoBulkAll r
def uptoBulkEntries {H : Type} : List (Lit × DataW H) → Nat
  | [] => 0
  | x :: r => uptoBulkEntry x + uptoBulkEntries r
def uptoBulkEntry {H : Type} : Lit × DataW H → Nat
  | (.string bytes, d) => bytes.length + uptoBulk d + 1
  | (_, d) => uptoBulk d + 1
 end
def uptoSmall : (H : Type) → List (DataW H) → Bool := fun _ ds => decide (uptoBulkAll ds ≤ 1048576)
def OpenSpec.upto (s : _root_.Go.ChangeSpec) : _root_.Go.OpenSpec := { _root_.Go.OpenSpec.ofChange s with cond := some uptoSmall }

/-- 'laws.FnFields', WHERE WHAT IT READS IS OF BULK AT MOST 1048576: true; the input reads as it did. -/
def fnFieldsUptoRow : OpenClaim := { program := "ytohngajjmlldjaa", sum := "2166d96b94ec670aad818e23345fda45099a44890616628e845c0cc5f1964e96", func := "loop.example/g00543/laws.FnFields", spec := "fnFields", inPlace := ["sync/atomic.LoadUint32", "(*internal/sync.Mutex).Lock", "internal/race.Disable", "sync/atomic.CompareAndSwapInt32", "internal/race.Enable", "internal/race.Acquire", "(*internal/sync.Mutex).lockSlow", "internal/sync.runtime_canSpin", "internal/sync.runtime_doSpin", "internal/sync.throw", "internal/sync.runtime_nanotime", "internal/sync.runtime_SemacquireMutex", "sync/atomic.AddInt32", "(*internal/sync.Mutex).Unlock", "internal/race.ReleaseMerge", "(*internal/sync.Mutex).unlockSlow", "internal/sync.fatal", "internal/sync.runtime_Semrelease", "sync/atomic.StoreUint32"], unfollowed := true, recurses := true, apart := false, narrowed := true }
def FnFieldsUptoSaid : Prop := fnFieldsUptoRow.holds Try.pinned (OpenSpec.upto fnFieldsSpec)

/-- 'laws.FnPows', WHERE WHAT IT READS IS OF BULK AT MOST 1048576: true; the input reads as it did. -/
def fnPowsUptoRow : OpenClaim := { program := "ytohngajjmlldjaa", sum := "2166d96b94ec670aad818e23345fda45099a44890616628e845c0cc5f1964e96", func := "loop.example/g00543/laws.FnPows", spec := "fnPows", inPlace := ["sync/atomic.LoadUint32", "(*internal/sync.Mutex).Lock", "internal/race.Disable", "sync/atomic.CompareAndSwapInt32", "internal/race.Enable", "internal/race.Acquire", "(*internal/sync.Mutex).lockSlow", "internal/sync.runtime_canSpin", "internal/sync.runtime_doSpin", "internal/sync.throw", "internal/sync.runtime_nanotime", "internal/sync.runtime_SemacquireMutex", "sync/atomic.AddInt32", "(*internal/sync.Mutex).Unlock", "internal/race.ReleaseMerge", "(*internal/sync.Mutex).unlockSlow", "internal/sync.fatal", "internal/sync.runtime_Semrelease", "sync/atomic.StoreUint32"], unfollowed := true, recurses := true, apart := false, narrowed := true }
def FnPowsUptoSaid : Prop := fnPowsUptoRow.holds Try.pinned (OpenSpec.upto fnPowsSpec)

/-- 'laws.FnSumsOf', WHERE WHAT IT READS IS OF BULK AT MOST 1048576: true; the input reads as it did. -/
def fnSumsOfUptoRow : OpenClaim := { program := "ytohngajjmlldjaa", sum := "2166d96b94ec670aad818e23345fda45099a44890616628e845c0cc5f1964e96", func := "loop.example/g00543/laws.FnSumsOf", spec := "fnSumsOf", inPlace := ["sync/atomic.LoadUint32", "(*internal/sync.Mutex).Lock", "internal/race.Disable", "sync/atomic.CompareAndSwapInt32", "internal/race.Enable", "internal/race.Acquire", "(*internal/sync.Mutex).lockSlow", "internal/sync.runtime_canSpin", "internal/sync.runtime_doSpin", "internal/sync.throw", "internal/sync.runtime_nanotime", "internal/sync.runtime_SemacquireMutex", "sync/atomic.AddInt32", "(*internal/sync.Mutex).Unlock", "internal/race.ReleaseMerge", "(*internal/sync.Mutex).unlockSlow", "internal/sync.fatal", "internal/sync.runtime_Semrelease", "sync/atomic.StoreUint32"], unfollowed := true, recurses := true, apart := false, narrowed := true }
def FnSumsOfUptoSaid : Prop := fnSumsOfUptoRow.holds Try.pinned (OpenSpec.upto fnSumsOfSpec)

/-- 'laws.FnExactFOk', WHERE WHAT IT READS IS OF BULK AT MOST 1048576: true; the input reads as it did. -/
def fnExactFOkUptoRow : OpenClaim := { program := "ytohngajjmlldjaa", sum := "2166d96b94ec670aad818e23345fda45099a44890616628e845c0cc5f1964e96", func := "loop.example/g00543/laws.FnExactFOk", spec := "fnExactFOk", apart := false, narrowed := true }
def FnExactFOkUptoSaid : Prop := fnExactFOkUptoRow.holds Try.pinned (OpenSpec.upto fnExactFOkSpec)

/-- 'laws.FnExactFOf', WHERE WHAT IT READS IS OF BULK AT MOST 1048576: true; the input reads as it did. -/
def fnExactFOfUptoRow : OpenClaim := { program := "ytohngajjmlldjaa", sum := "2166d96b94ec670aad818e23345fda45099a44890616628e845c0cc5f1964e96", func := "loop.example/g00543/laws.FnExactFOf", spec := "fnExactFOf", apart := false, narrowed := true }
def FnExactFOfUptoSaid : Prop := fnExactFOfUptoRow.holds Try.pinned (OpenSpec.upto fnExactFOfSpec)

/-- 'laws.FnExactFAdd', WHERE WHAT IT READS IS OF BULK AT MOST 1048576: true; the input reads as it did. -/
def fnExactFAddUptoRow : OpenClaim := { program := "ytohngajjmlldjaa", sum := "2166d96b94ec670aad818e23345fda45099a44890616628e845c0cc5f1964e96", func := "loop.example/g00543/laws.FnExactFAdd", spec := "fnExactFAdd", apart := false, narrowed := true }
def FnExactFAddUptoSaid : Prop := fnExactFAddUptoRow.holds Try.pinned (OpenSpec.upto fnExactFAddSpec)

/-- 'laws.FnExactFSub', WHERE WHAT IT READS IS OF BULK AT MOST 1048576: true; the input reads as it did. -/
def fnExactFSubUptoRow : OpenClaim := { program := "ytohngajjmlldjaa", sum := "2166d96b94ec670aad818e23345fda45099a44890616628e845c0cc5f1964e96", func := "loop.example/g00543/laws.FnExactFSub", spec := "fnExactFSub", apart := false, narrowed := true }
def FnExactFSubUptoSaid : Prop := fnExactFSubUptoRow.holds Try.pinned (OpenSpec.upto fnExactFSubSpec)

/-- 'laws.FnExactFMul', WHERE WHAT IT READS IS OF BULK AT MOST 1048576: true; the input reads as it did. -/
def fnExactFMulUptoRow : OpenClaim := { program := "ytohngajjmlldjaa", sum := "2166d96b94ec670aad818e23345fda45099a44890616628e845c0cc5f1964e96", func := "loop.example/g00543/laws.FnExactFMul", spec := "fnExactFMul", apart := false, narrowed := true }
def FnExactFMulUptoSaid : Prop := fnExactFMulUptoRow.holds Try.pinned (OpenSpec.upto fnExactFMulSpec)

/-- 'laws.FnExactFPow', WHERE WHAT IT READS IS OF BULK AT MOST 1048576: true; the input reads as it did. -/
def fnExactFPowUptoRow : OpenClaim := { program := "ytohngajjmlldjaa", sum := "2166d96b94ec670aad818e23345fda45099a44890616628e845c0cc5f1964e96", func := "loop.example/g00543/laws.FnExactFPow", spec := "fnExactFPow", apart := false, narrowed := true }
def FnExactFPowUptoSaid : Prop := fnExactFPowUptoRow.holds Try.pinned (OpenSpec.upto fnExactFPowSpec)

/-- 'laws.FnExactFInv', WHERE WHAT IT READS IS OF BULK AT MOST 1048576: true; the input reads as it did. -/
def fnExactFInvUptoRow : OpenClaim := { program := "ytohngajjmlldjaa", sum := "2166d96b94ec670aad818e23345fda45099a44890616628e845c0cc5f1964e96", func := "loop.example/g00543/laws.FnExactFInv", spec := "fnExactFInv", inPlace := ["sync/atomic.LoadUint32", "(*internal/sync.Mutex).Lock", "internal/race.Disable", "sync/atomic.CompareAndSwapInt32", "internal/race.Enable", "internal/race.Acquire", "(*internal/sync.Mutex).lockSlow", "internal/sync.runtime_canSpin", "internal/sync.runtime_doSpin", "internal/sync.throw", "internal/sync.runtime_nanotime", "internal/sync.runtime_SemacquireMutex", "sync/atomic.AddInt32", "(*internal/sync.Mutex).Unlock", "internal/race.ReleaseMerge", "(*internal/sync.Mutex).unlockSlow", "internal/sync.fatal", "internal/sync.runtime_Semrelease", "sync/atomic.StoreUint32"], unfollowed := true, recurses := true, apart := false, narrowed := true }
def FnExactFInvUptoSaid : Prop := fnExactFInvUptoRow.holds Try.pinned (OpenSpec.upto fnExactFInvSpec)

/-- 'laws.FnExactFSigned', WHERE WHAT IT READS IS OF BULK AT MOST 1048576: true; the input reads as it did. -/
def fnExactFSignedUptoRow : OpenClaim := { program := "ytohngajjmlldjaa", sum := "2166d96b94ec670aad818e23345fda45099a44890616628e845c0cc5f1964e96", func := "loop.example/g00543/laws.FnExactFSigned", spec := "fnExactFSigned", apart := false, narrowed := true }
def FnExactFSignedUptoSaid : Prop := fnExactFSignedUptoRow.holds Try.pinned (OpenSpec.upto fnExactFSignedSpec)

/-- 'laws.FnExactFNeg', WHERE WHAT IT READS IS OF BULK AT MOST 1048576: true; the input reads as it did. -/
def fnExactFNegUptoRow : OpenClaim := { program := "ytohngajjmlldjaa", sum := "2166d96b94ec670aad818e23345fda45099a44890616628e845c0cc5f1964e96", func := "loop.example/g00543/laws.FnExactFNeg", spec := "fnExactFNeg", apart := false, narrowed := true }
def FnExactFNegUptoSaid : Prop := fnExactFNegUptoRow.holds Try.pinned (OpenSpec.upto fnExactFNegSpec)

end Rows
end Go.Proofs.Ytohngajjmlldjaa
