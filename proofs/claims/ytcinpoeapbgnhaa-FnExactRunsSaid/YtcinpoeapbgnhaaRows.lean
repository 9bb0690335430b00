/-
  No cell of these rows narrows 'for every input' (looked for: loops, veiled, ifaces, maps, wideKeys, modest, calm, conditions, laid).
  DERIVED. THE GIVEN ROWS OF THIS SEAT. 7 by the template 'for every input the law returns true; each argument reads behind the call as it read before'; 0 by the template 'total and deterministic' (their statements: YtcinpoeapbgnhaaTotals.lean).
  GIVEN WITH THE SEED: the statements are not yours to turn. If you find one false, say at which input.
  Laid BY PROGRAM, IN A SANDBOX (cutbox-rows.mjs): the forced cells as the released guide's own fill.sh prints them over the translation d0b0b02a2bac54ce… (all of the seat's roots in one cut). By AI agents, Wed Nov 11 2026. No macro, syntax, notation, axiom, sorry.
-/
import Derived.Test.YtcinpoeapbgnhaaChecked
import GoSem.Claim
import GoSem.ClaimJoined
import GoSem.ClaimMapViews
import Derived.JoinedTies
import Derived.KernelRfl
namespace Go.Proofs.Ytcinpoeapbgnhaa
/- THE CELL 'sum', in the pinned program and in every row, IS THE sha256 OF THE DUMP (.gsa) THAT YtcinpoeapbgnhaaProg.lean LOADS. Nothing in Lean hashes anything: it is a label: what it is worth is what the hold of that sum in a sandbox is worth. -/
noncomputable def Try.pinned : Pinned := { name := "ytcinpoeapbgnhaa", sum := "d0b0b02a2bac54ceb5d9c5d97d17c7b893db7288f9f7212e8edaa756639bb962", checked := Try.checked }
namespace Rows
def none {H : Type} : Left H := { results := [], args := [] }

/-- 'laws.FnExactStateCount': WHATEVER THE INPUT: true; the input reads as it did. -/
def fnExactStateCountSpec : ChangeSpec := { name := "fnExactStateCount", fn := fun _ => fun
  | [d] => { results := [.lit (.bool true)], args := [d] }
  | _ => none }
def fnExactStateCountRow : OpenClaim := { program := "ytcinpoeapbgnhaa", sum := "d0b0b02a2bac54ceb5d9c5d97d17c7b893db7288f9f7212e8edaa756639bb962", func := "loop.example/g00543/laws.FnExactStateCount", spec := "fnExactStateCount", plainKeys := false, apart := false }
def FnExactStateCountSaid : Prop := fnExactStateCountRow.holds Try.pinned (OpenSpec.ofChange fnExactStateCountSpec)

/-- ITS FALSE NEIGHBOUR: 'it returns false'. Refute it at one input. -/
def fnExactStateCountWrong : ChangeSpec := { name := "fnExactStateCount", fn := fun _ => fun
  | [d] => { results := [.lit (.bool false)], args := [d] }
  | _ => none }
def FnExactStateCountWrongFalsely : Prop := fnExactStateCountRow.holds Try.pinned (OpenSpec.ofChange fnExactStateCountWrong)

/-- 'laws.FnExactDfaOk': WHATEVER THE INPUT: true; the input reads as it did. -/
def fnExactDfaOkSpec : ChangeSpec := { name := "fnExactDfaOk", fn := fun _ => fun
  | [d] => { results := [.lit (.bool true)], args := [d] }
  | _ => none }
def fnExactDfaOkRow : OpenClaim := { program := "ytcinpoeapbgnhaa", sum := "d0b0b02a2bac54ceb5d9c5d97d17c7b893db7288f9f7212e8edaa756639bb962", func := "loop.example/g00543/laws.FnExactDfaOk", spec := "fnExactDfaOk", plainKeys := false, apart := false }
def FnExactDfaOkSaid : Prop := fnExactDfaOkRow.holds Try.pinned (OpenSpec.ofChange fnExactDfaOkSpec)

/-- ITS FALSE NEIGHBOUR: 'it returns false'. Refute it at one input. -/
def fnExactDfaOkWrong : ChangeSpec := { name := "fnExactDfaOk", fn := fun _ => fun
  | [d] => { results := [.lit (.bool false)], args := [d] }
  | _ => none }
def FnExactDfaOkWrongFalsely : Prop := fnExactDfaOkRow.holds Try.pinned (OpenSpec.ofChange fnExactDfaOkWrong)

/-- 'laws.FnExactAccepting': WHATEVER THE INPUT: true; the input reads as it did. -/
def fnExactAcceptingSpec : ChangeSpec := { name := "fnExactAccepting", fn := fun _ => fun
  | [d] => { results := [.lit (.bool true)], args := [d] }
  | _ => none }
def fnExactAcceptingRow : OpenClaim := { program := "ytcinpoeapbgnhaa", sum := "d0b0b02a2bac54ceb5d9c5d97d17c7b893db7288f9f7212e8edaa756639bb962", func := "loop.example/g00543/laws.FnExactAccepting", spec := "fnExactAccepting", plainKeys := false, apart := false }
def FnExactAcceptingSaid : Prop := fnExactAcceptingRow.holds Try.pinned (OpenSpec.ofChange fnExactAcceptingSpec)

/-- ITS FALSE NEIGHBOUR: 'it returns false'. Refute it at one input. -/
def fnExactAcceptingWrong : ChangeSpec := { name := "fnExactAccepting", fn := fun _ => fun
  | [d] => { results := [.lit (.bool false)], args := [d] }
  | _ => none }
def FnExactAcceptingWrongFalsely : Prop := fnExactAcceptingRow.holds Try.pinned (OpenSpec.ofChange fnExactAcceptingWrong)

/-- 'laws.FnExactRuns': WHATEVER THE INPUT: true; the input reads as it did. -/
def fnExactRunsSpec : ChangeSpec := { name := "fnExactRuns", fn := fun _ => fun
  | [d1, d2] => { results := [.lit (.bool true)], args := [d1, d2] }
  | _ => none }
def fnExactRunsRow : OpenClaim := { program := "ytcinpoeapbgnhaa", sum := "d0b0b02a2bac54ceb5d9c5d97d17c7b893db7288f9f7212e8edaa756639bb962", func := "loop.example/g00543/laws.FnExactRuns", spec := "fnExactRuns", unfollowed := true, recurses := true, plainKeys := false, apart := false }
def FnExactRunsSaid : Prop := fnExactRunsRow.holds Try.pinned (OpenSpec.ofChange fnExactRunsSpec)

/-- ITS FALSE NEIGHBOUR: 'it returns false'. Refute it at one input. -/
def fnExactRunsWrong : ChangeSpec := { name := "fnExactRuns", fn := fun _ => fun
  | [d1, d2] => { results := [.lit (.bool false)], args := [d1, d2] }
  | _ => none }
def FnExactRunsWrongFalsely : Prop := fnExactRunsRow.holds Try.pinned (OpenSpec.ofChange fnExactRunsWrong)

/-- 'laws.FnExactReachable': WHATEVER THE INPUT: true; the input reads as it did. -/
def fnExactReachableSpec : ChangeSpec := { name := "fnExactReachable", fn := fun _ => fun
  | [d] => { results := [.lit (.bool true)], args := [d] }
  | _ => none }
def fnExactReachableRow : OpenClaim := { program := "ytcinpoeapbgnhaa", sum := "d0b0b02a2bac54ceb5d9c5d97d17c7b893db7288f9f7212e8edaa756639bb962", func := "loop.example/g00543/laws.FnExactReachable", spec := "fnExactReachable", unfollowed := true, recurses := true, plainKeys := false, apart := false }
def FnExactReachableSaid : Prop := fnExactReachableRow.holds Try.pinned (OpenSpec.ofChange fnExactReachableSpec)

/-- ITS FALSE NEIGHBOUR: 'it returns false'. Refute it at one input. -/
def fnExactReachableWrong : ChangeSpec := { name := "fnExactReachable", fn := fun _ => fun
  | [d] => { results := [.lit (.bool false)], args := [d] }
  | _ => none }
def FnExactReachableWrongFalsely : Prop := fnExactReachableRow.holds Try.pinned (OpenSpec.ofChange fnExactReachableWrong)

/-- 'laws.FnExactMinimal': WHATEVER THE INPUT: true; the input reads as it did. -/
def fnExactMinimalSpec : ChangeSpec := { name := "fnExactMinimal", fn := fun _ => fun
  | [d] => { results := [.lit (.bool true)], args := [d] }
  | _ => none }
def fnExactMinimalRow : OpenClaim := { program := "ytcinpoeapbgnhaa", sum := "d0b0b02a2bac54ceb5d9c5d97d17c7b893db7288f9f7212e8edaa756639bb962", func := "loop.example/g00543/laws.FnExactMinimal", spec := "fnExactMinimal", unfollowed := true, recurses := true, plainKeys := false, apart := false }
def FnExactMinimalSaid : Prop := fnExactMinimalRow.holds Try.pinned (OpenSpec.ofChange fnExactMinimalSpec)

/-- ITS FALSE NEIGHBOUR: 'it returns false'. Refute it at one input. -/
def fnExactMinimalWrong : ChangeSpec := { name := "fnExactMinimal", fn := fun _ => fun
  | [d] => { results := [.lit (.bool false)], args := [d] }
  | _ => none }
def FnExactMinimalWrongFalsely : Prop := fnExactMinimalRow.holds Try.pinned (OpenSpec.ofChange fnExactMinimalWrong)

/-- 'laws.FnMinimals': WHATEVER THE INPUT: true; the input reads as it did. -/
def fnMinimalsSpec : ChangeSpec := { name := "fnMinimals", fn := fun _ => fun
  | [d] => { results := [.lit (.bool true)], args := [d] }
  | _ => none }
def fnMinimalsRow : OpenClaim := { program := "ytcinpoeapbgnhaa", sum := "d0b0b02a2bac54ceb5d9c5d97d17c7b893db7288f9f7212e8edaa756639bb962", func := "loop.example/g00543/laws.FnMinimals", spec := "fnMinimals", unfollowed := true, recurses := true, plainKeys := false, apart := false }
def FnMinimalsSaid : Prop := fnMinimalsRow.holds Try.pinned (OpenSpec.ofChange fnMinimalsSpec)

/-- ITS FALSE NEIGHBOUR: 'it returns false'. Refute it at one input. -/
def fnMinimalsWrong : ChangeSpec := { name := "fnMinimals", fn := fun _ => fun
  | [d] => { results := [.lit (.bool false)], args := [d] }
  | _ => none }
def FnMinimalsWrongFalsely : Prop := fnMinimalsRow.holds Try.pinned (OpenSpec.ofChange fnMinimalsWrong)

/- THE SECOND FORM. 'bulk': how many values and letters a reading holds, each counted each time it is reached (what is shared counts as often as it is met; a slice's spare places count too). A statement '..UptoSaid' is the law's where the arguments, and the package variables that the reading takes, are together of bulk at most 1048576: NARROWER than '..Said'. Prove '..Said' where nothing that the law and all that it calls make is longer than what came in: it says more and counts as full. Else prove '..UptoSaid'. A law counts once. -/
mutual
def uptoBulk {H : Type} : DataW H → Nat
  | .lit (.string bytes) => bytes.length + 1
  | .lit _ => 1
  | .nil => 1
  | .ptr d => uptoBulk d + 1
  | .slice elems spare => uptoBulkAll elems + uptoBulkAll spare + 1
  | .agg parts => uptoBulkAll parts + 1
  | .iface _ d => uptoBulk d + 1
  | .map entries => uptoBulkEntries entries + 1
  | .held _ => 1
def uptoBulkAll {H : Type} : List (DataW H) → Nat
  | [] => 0
  | d :: r => uptoBulk d + uptoBulkAll r
def uptoBulkEntries {H : Type} : List (Lit × DataW H) → Nat
  | [] => 0
  | x :: r => uptoBulkEntry x + uptoBulkEntries r
def uptoBulkEntry {H : Type} : Lit × DataW H → Nat
  | (.string bytes, d) => bytes.length + uptoBulk d + 1
  | (_, d) => uptoBulk d + 1
 end
def uptoSmall : (H : Type) → List (DataW H) → Bool := fun _ ds => decide (uptoBulkAll ds ≤ 1048576)
def OpenSpec.upto (s : _root_.Go.ChangeSpec) : _root_.Go.OpenSpec := { _root_.Go.OpenSpec.ofChange s with cond := some uptoSmall }

/-- 'laws.FnExactStateCount', WHERE WHAT IT READS IS OF BULK AT MOST 1048576: true; the input reads as it did. -/
def fnExactStateCountUptoRow : OpenClaim := { program := "ytcinpoeapbgnhaa", sum := "d0b0b02a2bac54ceb5d9c5d97d17c7b893db7288f9f7212e8edaa756639bb962", func := "loop.example/g00543/laws.FnExactStateCount", spec := "fnExactStateCount", plainKeys := false, apart := false, narrowed := true }
def FnExactStateCountUptoSaid : Prop := fnExactStateCountUptoRow.holds Try.pinned (OpenSpec.upto fnExactStateCountSpec)

/-- 'laws.FnExactDfaOk', WHERE WHAT IT READS IS OF BULK AT MOST 1048576: true; the input reads as it did. -/
def fnExactDfaOkUptoRow : OpenClaim := { program := "ytcinpoeapbgnhaa", sum := "d0b0b02a2bac54ceb5d9c5d97d17c7b893db7288f9f7212e8edaa756639bb962", func := "loop.example/g00543/laws.FnExactDfaOk", spec := "fnExactDfaOk", plainKeys := false, apart := false, narrowed := true }
def FnExactDfaOkUptoSaid : Prop := fnExactDfaOkUptoRow.holds Try.pinned (OpenSpec.upto fnExactDfaOkSpec)

/-- 'laws.FnExactAccepting', WHERE WHAT IT READS IS OF BULK AT MOST 1048576: true; the input reads as it did. -/
def fnExactAcceptingUptoRow : OpenClaim := { program := "ytcinpoeapbgnhaa", sum := "d0b0b02a2bac54ceb5d9c5d97d17c7b893db7288f9f7212e8edaa756639bb962", func := "loop.example/g00543/laws.FnExactAccepting", spec := "fnExactAccepting", plainKeys := false, apart := false, narrowed := true }
def FnExactAcceptingUptoSaid : Prop := fnExactAcceptingUptoRow.holds Try.pinned (OpenSpec.upto fnExactAcceptingSpec)

/-- 'laws.FnExactRuns', WHERE WHAT IT READS IS OF BULK AT MOST 1048576: true; the input reads as it did. -/
def fnExactRunsUptoRow : OpenClaim := { program := "ytcinpoeapbgnhaa", sum := "d0b0b02a2bac54ceb5d9c5d97d17c7b893db7288f9f7212e8edaa756639bb962", func := "loop.example/g00543/laws.FnExactRuns", spec := "fnExactRuns", unfollowed := true, recurses := true, plainKeys := false, apart := false, narrowed := true }
def FnExactRunsUptoSaid : Prop := fnExactRunsUptoRow.holds Try.pinned (OpenSpec.upto fnExactRunsSpec)

/-- 'laws.FnExactReachable', WHERE WHAT IT READS IS OF BULK AT MOST 1048576: true; the input reads as it did. -/
def fnExactReachableUptoRow : OpenClaim := { program := "ytcinpoeapbgnhaa", sum := "d0b0b02a2bac54ceb5d9c5d97d17c7b893db7288f9f7212e8edaa756639bb962", func := "loop.example/g00543/laws.FnExactReachable", spec := "fnExactReachable", unfollowed := true, recurses := true, plainKeys := false, apart := false, narrowed := true }
def FnExactReachableUptoSaid : Prop := fnExactReachableUptoRow.holds Try.pinned (OpenSpec.upto fnExactReachableSpec)

/-- 'laws.FnExactMinimal', WHERE WHAT IT READS IS OF BULK AT MOST 1048576: true; the input reads as it did. -/
def fnExactMinimalUptoRow : OpenClaim := { program := "ytcinpoeapbgnhaa", sum := "d0b0b02a2bac54ceb5d9c5d97d17c7b893db7288f9f7212e8edaa756639bb962", func := "loop.example/g00543/laws.FnExactMinimal", spec := "fnExactMinimal", unfollowed := true, recurses := true, plainKeys := false, apart := false, narrowed := true }
def FnExactMinimalUptoSaid : Prop := fnExactMinimalUptoRow.holds Try.pinned (OpenSpec.upto fnExactMinimalSpec)

/-- 'laws.FnMinimals', WHERE WHAT IT READS IS OF BULK AT MOST 1048576: true; the input reads as it did. -/
def fnMinimalsUptoRow : OpenClaim := { program := "ytcinpoeapbgnhaa", sum := "d0b0b02a2bac54ceb5d9c5d97d17c7b893db7288f9f7212e8edaa756639bb962", func := "loop.example/g00543/laws.FnMinimals", spec := "fnMinimals", unfollowed := true, recurses := true, plainKeys := false, apart := false, narrowed := true }
def FnMinimalsUptoSaid : Prop := fnMinimalsUptoRow.holds Try.pinned (OpenSpec.upto fnMinimalsSpec)

end Rows
end Go.Proofs.Ytcinpoeapbgnhaa
