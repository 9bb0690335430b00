/-
  No cell of these rows narrows 'for every input' (looked for: loops, veiled, ifaces, maps, wideKeys, modest, calm, conditions, laid).
  DERIVED. THE GIVEN ROWS OF THIS SEAT. 5 by the template 'for every input the law returns true; each argument reads behind the call as it read before'; 0 by the template 'total and deterministic' (their statements: YtghjcedhoeoiiaaTotals.lean).
  GIVEN WITH THE SEED: the statements are not yours to turn. If you find one false, say at which input.
  Laid BY PROGRAM, IN A SANDBOX (cutbox-rows.mjs): the forced cells as the released guide's own fill.sh prints them over the translation 8dc9b5cf8d8f35d2… (all of the seat's roots in one cut). By AI agents, Wed Nov 11 2026. No macro, syntax, notation, axiom, sorry.
-/
import Derived.Test.YtghjcedhoeoiiaaChecked
import GoSem.Claim
import GoSem.ClaimJoined
import GoSem.ClaimMapViews
import Derived.JoinedTies
import Derived.KernelRfl
namespace Go.Proofs.Ytghjcedhoeoiiaa
/- THE CELL 'sum', in the pinned program and in every row, IS THE sha256 OF THE DUMP (.gsa) THAT YtghjcedhoeoiiaaProg.lean LOADS. Nothing in Lean hashes anything: it is a label: what it is worth is what the hold of that sum in a sandbox is worth. -/
noncomputable def Try.pinned : Pinned := { name := "ytghjcedhoeoiiaa", sum := "8dc9b5cf8d8f35d200a57bb927c8c55837b35f2c4a47b8b71d8d8721def41b74", checked := Try.checked }
namespace Rows
def none {H : Type} : Left H := { results := [], args := [] }

/-- 'laws.FnBools': WHATEVER THE INPUT: true; the input reads as it did. -/
def fnBoolsSpec : ChangeSpec := { name := "fnBools", fn := fun _ => fun
  | [d] => { results := [.lit (.bool true)], args := [d] }
  | _ => none }
def fnBoolsRow : OpenClaim := { program := "ytghjcedhoeoiiaa", sum := "8dc9b5cf8d8f35d200a57bb927c8c55837b35f2c4a47b8b71d8d8721def41b74", func := "loop.example/g00543/laws.FnBools", spec := "fnBools", inPlace := ["sync/atomic.AddInt64", "sync/atomic.LoadInt64"], unfollowed := true, recurses := true, apart := false }
def FnBoolsSaid : Prop := fnBoolsRow.holds Try.pinned (OpenSpec.ofChange fnBoolsSpec)

/-- ITS FALSE NEIGHBOUR: 'it returns false'. Refute it at one input. -/
def fnBoolsWrong : ChangeSpec := { name := "fnBools", fn := fun _ => fun
  | [d] => { results := [.lit (.bool false)], args := [d] }
  | _ => none }
def FnBoolsWrongFalsely : Prop := fnBoolsRow.holds Try.pinned (OpenSpec.ofChange fnBoolsWrong)

/-- 'laws.FnMuxes': WHATEVER THE INPUT: true; the input reads as it did. -/
def fnMuxesSpec : ChangeSpec := { name := "fnMuxes", fn := fun _ => fun
  | [d] => { results := [.lit (.bool true)], args := [d] }
  | _ => none }
def fnMuxesRow : OpenClaim := { program := "ytghjcedhoeoiiaa", sum := "8dc9b5cf8d8f35d200a57bb927c8c55837b35f2c4a47b8b71d8d8721def41b74", func := "loop.example/g00543/laws.FnMuxes", spec := "fnMuxes", inPlace := ["sync/atomic.AddInt64", "sync/atomic.LoadInt64"], unfollowed := true, recurses := true, apart := false }
def FnMuxesSaid : Prop := fnMuxesRow.holds Try.pinned (OpenSpec.ofChange fnMuxesSpec)

/-- ITS FALSE NEIGHBOUR: 'it returns false'. Refute it at one input. -/
def fnMuxesWrong : ChangeSpec := { name := "fnMuxes", fn := fun _ => fun
  | [d] => { results := [.lit (.bool false)], args := [d] }
  | _ => none }
def FnMuxesWrongFalsely : Prop := fnMuxesRow.holds Try.pinned (OpenSpec.ofChange fnMuxesWrong)

/-- 'laws.FnZeros': WHATEVER THE INPUT: true; the input reads as it did. -/
def fnZerosSpec : ChangeSpec := { name := "fnZeros", fn := fun _ => fun
  | [d] => { results := [.lit (.bool true)], args := [d] }
  | _ => none }
def fnZerosRow : OpenClaim := { program := "ytghjcedhoeoiiaa", sum := "8dc9b5cf8d8f35d200a57bb927c8c55837b35f2c4a47b8b71d8d8721def41b74", func := "loop.example/g00543/laws.FnZeros", spec := "fnZeros", inPlace := ["sync/atomic.AddInt64", "sync/atomic.LoadInt64"], unfollowed := true, recurses := true, apart := false }
def FnZerosSaid : Prop := fnZerosRow.holds Try.pinned (OpenSpec.ofChange fnZerosSpec)

/-- ITS FALSE NEIGHBOUR: 'it returns false'. Refute it at one input. -/
def fnZerosWrong : ChangeSpec := { name := "fnZeros", fn := fun _ => fun
  | [d] => { results := [.lit (.bool false)], args := [d] }
  | _ => none }
def FnZerosWrongFalsely : Prop := fnZerosRow.holds Try.pinned (OpenSpec.ofChange fnZerosWrong)

/-- 'laws.FnBits': WHATEVER THE INPUT: true; the input reads as it did. -/
def fnBitsSpec : ChangeSpec := { name := "fnBits", fn := fun _ => fun
  | [d] => { results := [.lit (.bool true)], args := [d] }
  | _ => none }
def fnBitsRow : OpenClaim := { program := "ytghjcedhoeoiiaa", sum := "8dc9b5cf8d8f35d200a57bb927c8c55837b35f2c4a47b8b71d8d8721def41b74", func := "loop.example/g00543/laws.FnBits", spec := "fnBits", inPlace := ["sync/atomic.AddInt64", "sync/atomic.LoadInt64"], unfollowed := true, recurses := true, apart := false }
def FnBitsSaid : Prop := fnBitsRow.holds Try.pinned (OpenSpec.ofChange fnBitsSpec)

/-- ITS FALSE NEIGHBOUR: 'it returns false'. Refute it at one input. -/
def fnBitsWrong : ChangeSpec := { name := "fnBits", fn := fun _ => fun
  | [d] => { results := [.lit (.bool false)], args := [d] }
  | _ => none }
def FnBitsWrongFalsely : Prop := fnBitsRow.holds Try.pinned (OpenSpec.ofChange fnBitsWrong)

/-- 'laws.FnLesses': WHATEVER THE INPUT: true; the input reads as it did. -/
def fnLessesSpec : ChangeSpec := { name := "fnLesses", fn := fun _ => fun
  | [d] => { results := [.lit (.bool true)], args := [d] }
  | _ => none }
def fnLessesRow : OpenClaim := { program := "ytghjcedhoeoiiaa", sum := "8dc9b5cf8d8f35d200a57bb927c8c55837b35f2c4a47b8b71d8d8721def41b74", func := "loop.example/g00543/laws.FnLesses", spec := "fnLesses", inPlace := ["sync/atomic.AddInt64", "sync/atomic.LoadInt64"], unfollowed := true, recurses := true, apart := false }
def FnLessesSaid : Prop := fnLessesRow.holds Try.pinned (OpenSpec.ofChange fnLessesSpec)

/-- ITS FALSE NEIGHBOUR: 'it returns false'. Refute it at one input. -/
def fnLessesWrong : ChangeSpec := { name := "fnLesses", fn := fun _ => fun
  | [d] => { results := [.lit (.bool false)], args := [d] }
  | _ => none }
def FnLessesWrongFalsely : Prop := fnLessesRow.holds Try.pinned (OpenSpec.ofChange fnLessesWrong)

/- THE SECOND FORM. 'bulk': how many values and letters a reading holds, each counted each time it is reached (what is shared counts as often as it is met; a slice's spare places count too). A statement '..UptoSaid' is the law's where the arguments, and the package variables that the reading takes, are together of bulk at most 1048576: NARROWER than '..Said'. Prove '..Said' where nothing that the law and all that it calls make is longer than what came in: it says more and counts as full. Else prove '..UptoSaid'. A law counts once. -/
mutual
def uptoBulk {H : Type} : DataW H → Nat
  | .lit (.string bytes) => bytes.length + 1
  | .lit _ => 1
  | .nil => 1
  | .ptr d => uptoBulk d + 1
  | .slice elems spare => uptoBulkAll elems + uptoBulkAll spare + 1
  | .agg parts => uptoBulkAll parts + 1
  | .iface _ d => uptoBulk d + 1
  | .map entries => uptoBulkEntries entries + 1
  | .held _ => 1
def uptoBulkAll {H : Type} : List (DataW H) → Nat
  | [] => 0
  | d :: r => uptoBulk d + uptoBulkAll r
def uptoBulkEntries {H : Type} : List (Lit × DataW H) → Nat
  | [] => 0
  | x :: r => uptoBulkEntry x + uptoBulkEntries r
def uptoBulkEntry {H : Type} : Lit × DataW H → Nat
  | (.string bytes, d) => bytes.length + uptoBulk d + 1
  | (_, d) => uptoBulk d + 1
 end
def uptoSmall : (H : Type) → List (DataW H) → Bool := fun _ ds => decide (uptoBulkAll ds ≤ 1048576)
def OpenSpec.upto (s : _root_.Go.ChangeSpec) : _root_.Go.OpenSpec := { _root_.Go.OpenSpec.ofChange s with cond := some uptoSmall }

/-- 'laws.FnBools', WHERE WHAT IT READS IS OF BULK AT MOST 1048576: true; the input reads as it did. -/
def fnBoolsUptoRow : OpenClaim := { program := "ytghjcedhoeoiiaa", sum := "8dc9b5cf8d8f35d200a57bb927c8c55837b35f2c4a47b8b71d8d8721def41b74", func := "loop.example/g00543/laws.FnBools", spec := "fnBools", inPlace := ["sync/atomic.AddInt64", "sync/atomic.LoadInt64"], unfollowed := true, recurses := true, apart := false, narrowed := true }
def FnBoolsUptoSaid : Prop := fnBoolsUptoRow.holds Try.pinned (OpenSpec.upto fnBoolsSpec)

/-- 'laws.FnMuxes', WHERE WHAT IT READS IS OF BULK AT MOST 1048576: true; the input reads as it did. -/
def fnMuxesUptoRow : OpenClaim := { program := "ytghjcedhoeoiiaa", sum := "8dc9b5cf8d8f35d200a57bb927c8c55837b35f2c4a47b8b71d8d8721def41b74", func := "loop.example/g00543/laws.FnMuxes", spec := "fnMuxes", inPlace := ["sync/atomic.AddInt64", "sync/atomic.LoadInt64"], unfollowed := true, recurses := true, apart := false, narrowed := true }
def FnMuxesUptoSaid : Prop := fnMuxesUptoRow.holds Try.pinned (OpenSpec.upto fnMuxesSpec)

/-- 'laws.FnZeros', WHERE WHAT IT READS IS OF BULK AT MOST 1048576: true; the input reads as it did. -/
def fnZerosUptoRow : OpenClaim := { program := "ytghjcedhoeoiiaa", sum := "8dc9b5cf8d8f35d200a57bb927c8c55837b35f2c4a47b8b71d8d8721def41b74", func := "loop.example/g00543/laws.FnZeros", spec := "fnZeros", inPlace := ["sync/atomic.AddInt64", "sync/atomic.LoadInt64"], unfollowed := true, recurses := true, apart := false, narrowed := true }
def FnZerosUptoSaid : Prop := fnZerosUptoRow.holds Try.pinned (OpenSpec.upto fnZerosSpec)

/-- 'laws.FnBits', WHERE WHAT IT READS IS OF BULK AT MOST 1048576: true; the input reads as it did. -/
def fnBitsUptoRow : OpenClaim := { program := "ytghjcedhoeoiiaa", sum := "8dc9b5cf8d8f35d200a57bb927c8c55837b35f2c4a47b8b71d8d8721def41b74", func := "loop.example/g00543/laws.FnBits", spec := "fnBits", inPlace := ["sync/atomic.AddInt64", "sync/atomic.LoadInt64"], unfollowed := true, recurses := true, apart := false, narrowed := true }
def FnBitsUptoSaid : Prop := fnBitsUptoRow.holds Try.pinned (OpenSpec.upto fnBitsSpec)

/-- 'laws.FnLesses', WHERE WHAT IT READS IS OF BULK AT MOST 1048576: true; the input reads as it did. -/
def fnLessesUptoRow : OpenClaim := { program := "ytghjcedhoeoiiaa", sum := "8dc9b5cf8d8f35d200a57bb927c8c55837b35f2c4a47b8b71d8d8721def41b74", func := "loop.example/g00543/laws.FnLesses", spec := "fnLesses", inPlace := ["sync/atomic.AddInt64", "sync/atomic.LoadInt64"], unfollowed := true, recurses := true, apart := false, narrowed := true }
def FnLessesUptoSaid : Prop := fnLessesUptoRow.holds Try.pinned (OpenSpec.upto fnLessesSpec)

end Rows
end Go.Proofs.Ytghjcedhoeoiiaa
