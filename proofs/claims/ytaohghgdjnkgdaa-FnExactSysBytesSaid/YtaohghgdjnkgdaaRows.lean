/-
  No cell of these rows narrows 'for every input' (looked for: loops, veiled, ifaces, maps, wideKeys, modest, calm, conditions, laid).
  DERIVED. THE GIVEN ROWS OF THIS SEAT. 11 by the template 'for every input the law returns true; each argument reads behind the call as it read before'; 0 by the template 'total and deterministic' (their statements: YtaohghgdjnkgdaaTotals.lean).
  GIVEN WITH THE SEED: the statements are not yours to turn. If you find one false, say at which input.
  Laid BY PROGRAM, IN A SANDBOX (cutbox-rows.mjs): the forced cells as the released guide's own fill.sh prints them over the translation 9636d70fa4437a9c… (all of the seat's roots in one cut). By AI agents, Wed Nov 11 2026. No macro, syntax, notation, axiom, sorry.
-/
import Derived.Test.YtaohghgdjnkgdaaChecked
import GoSem.Claim
import GoSem.ClaimJoined
import GoSem.ClaimMapViews
import Derived.JoinedTies
import Derived.KernelRfl
namespace Go.Proofs.Ytaohghgdjnkgdaa
/- THE CELL 'sum', in the pinned program and in every row, IS THE sha256 OF THE DUMP (.gsa) THAT YtaohghgdjnkgdaaProg.lean LOADS. Nothing in Lean hashes anything: it is a label: what it is worth is what the hold of that sum in a sandbox is worth. -/
noncomputable def Try.pinned : Pinned := { name := "ytaohghgdjnkgdaa", sum := "9636d70fa4437a9c99acd0be87e635db2c1765843a8c7c0a2545d7e7bfeef325", checked := Try.checked }
namespace Rows
def none {H : Type} : Left H := { results := [], args := [] }

/-- 'laws.FnExactSysOk': WHATEVER THE INPUT: true; the input reads as it did. -/
def fnExactSysOkSpec : ChangeSpec := { name := "fnExactSysOk", fn := fun _ => fun
  | [d] => { results := [.lit (.bool true)], args := [d] }
  | _ => none }
def fnExactSysOkRow : OpenClaim := { program := "ytaohghgdjnkgdaa", sum := "9636d70fa4437a9c99acd0be87e635db2c1765843a8c7c0a2545d7e7bfeef325", func := "loop.example/g00543/laws.FnExactSysOk", spec := "fnExactSysOk", apart := false }
def FnExactSysOkSaid : Prop := fnExactSysOkRow.holds Try.pinned (OpenSpec.ofChange fnExactSysOkSpec)

/-- ITS FALSE NEIGHBOUR: 'it returns false'. Refute it at one input. -/
def fnExactSysOkWrong : ChangeSpec := { name := "fnExactSysOk", fn := fun _ => fun
  | [d] => { results := [.lit (.bool false)], args := [d] }
  | _ => none }
def FnExactSysOkWrongFalsely : Prop := fnExactSysOkRow.holds Try.pinned (OpenSpec.ofChange fnExactSysOkWrong)

/-- 'laws.FnExactSysNew': WHATEVER THE INPUT: true; the input reads as it did. -/
def fnExactSysNewSpec : ChangeSpec := { name := "fnExactSysNew", fn := fun _ => fun
  | [d] => { results := [.lit (.bool true)], args := [d] }
  | _ => none }
def fnExactSysNewRow : OpenClaim := { program := "ytaohghgdjnkgdaa", sum := "9636d70fa4437a9c99acd0be87e635db2c1765843a8c7c0a2545d7e7bfeef325", func := "loop.example/g00543/laws.FnExactSysNew", spec := "fnExactSysNew", apart := false }
def FnExactSysNewSaid : Prop := fnExactSysNewRow.holds Try.pinned (OpenSpec.ofChange fnExactSysNewSpec)

/-- ITS FALSE NEIGHBOUR: 'it returns false'. Refute it at one input. -/
def fnExactSysNewWrong : ChangeSpec := { name := "fnExactSysNew", fn := fun _ => fun
  | [d] => { results := [.lit (.bool false)], args := [d] }
  | _ => none }
def FnExactSysNewWrongFalsely : Prop := fnExactSysNewRow.holds Try.pinned (OpenSpec.ofChange fnExactSysNewWrong)

/-- 'laws.FnExactHolds': WHATEVER THE INPUT: true; the input reads as it did. -/
def fnExactHoldsSpec : ChangeSpec := { name := "fnExactHolds", fn := fun _ => fun
  | [d1, d2] => { results := [.lit (.bool true)], args := [d1, d2] }
  | _ => none }
def fnExactHoldsRow : OpenClaim := { program := "ytaohghgdjnkgdaa", sum := "9636d70fa4437a9c99acd0be87e635db2c1765843a8c7c0a2545d7e7bfeef325", func := "loop.example/g00543/laws.FnExactHolds", spec := "fnExactHolds", apart := false }
def FnExactHoldsSaid : Prop := fnExactHoldsRow.holds Try.pinned (OpenSpec.ofChange fnExactHoldsSpec)

/-- ITS FALSE NEIGHBOUR: 'it returns false'. Refute it at one input. -/
def fnExactHoldsWrong : ChangeSpec := { name := "fnExactHolds", fn := fun _ => fun
  | [d1, d2] => { results := [.lit (.bool false)], args := [d1, d2] }
  | _ => none }
def FnExactHoldsWrongFalsely : Prop := fnExactHoldsRow.holds Try.pinned (OpenSpec.ofChange fnExactHoldsWrong)

/-- 'laws.FnExactCheck': WHATEVER THE INPUT: true; the input reads as it did. -/
def fnExactCheckSpec : ChangeSpec := { name := "fnExactCheck", fn := fun _ => fun
  | [d1, d2] => { results := [.lit (.bool true)], args := [d1, d2] }
  | _ => none }
def fnExactCheckRow : OpenClaim := { program := "ytaohghgdjnkgdaa", sum := "9636d70fa4437a9c99acd0be87e635db2c1765843a8c7c0a2545d7e7bfeef325", func := "loop.example/g00543/laws.FnExactCheck", spec := "fnExactCheck", apart := false }
def FnExactCheckSaid : Prop := fnExactCheckRow.holds Try.pinned (OpenSpec.ofChange fnExactCheckSpec)

/-- ITS FALSE NEIGHBOUR: 'it returns false'. Refute it at one input. -/
def fnExactCheckWrong : ChangeSpec := { name := "fnExactCheck", fn := fun _ => fun
  | [d1, d2] => { results := [.lit (.bool false)], args := [d1, d2] }
  | _ => none }
def FnExactCheckWrongFalsely : Prop := fnExactCheckRow.holds Try.pinned (OpenSpec.ofChange fnExactCheckWrong)

/-- 'laws.FnExactOutsOf': WHATEVER THE INPUT: true; the input reads as it did. -/
def fnExactOutsOfSpec : ChangeSpec := { name := "fnExactOutsOf", fn := fun _ => fun
  | [d1, d2] => { results := [.lit (.bool true)], args := [d1, d2] }
  | _ => none }
def fnExactOutsOfRow : OpenClaim := { program := "ytaohghgdjnkgdaa", sum := "9636d70fa4437a9c99acd0be87e635db2c1765843a8c7c0a2545d7e7bfeef325", func := "loop.example/g00543/laws.FnExactOutsOf", spec := "fnExactOutsOf", apart := false }
def FnExactOutsOfSaid : Prop := fnExactOutsOfRow.holds Try.pinned (OpenSpec.ofChange fnExactOutsOfSpec)

/-- ITS FALSE NEIGHBOUR: 'it returns false'. Refute it at one input. -/
def fnExactOutsOfWrong : ChangeSpec := { name := "fnExactOutsOf", fn := fun _ => fun
  | [d1, d2] => { results := [.lit (.bool false)], args := [d1, d2] }
  | _ => none }
def FnExactOutsOfWrongFalsely : Prop := fnExactOutsOfRow.holds Try.pinned (OpenSpec.ofChange fnExactOutsOfWrong)

/-- 'laws.FnExactSysBytes': WHATEVER THE INPUT: true; the input reads as it did. -/
def fnExactSysBytesSpec : ChangeSpec := { name := "fnExactSysBytes", fn := fun _ => fun
  | [d] => { results := [.lit (.bool true)], args := [d] }
  | _ => none }
def fnExactSysBytesRow : OpenClaim := { program := "ytaohghgdjnkgdaa", sum := "9636d70fa4437a9c99acd0be87e635db2c1765843a8c7c0a2545d7e7bfeef325", func := "loop.example/g00543/laws.FnExactSysBytes", spec := "fnExactSysBytes", apart := false }
def FnExactSysBytesSaid : Prop := fnExactSysBytesRow.holds Try.pinned (OpenSpec.ofChange fnExactSysBytesSpec)

/-- ITS FALSE NEIGHBOUR: 'it returns false'. Refute it at one input. -/
def fnExactSysBytesWrong : ChangeSpec := { name := "fnExactSysBytes", fn := fun _ => fun
  | [d] => { results := [.lit (.bool false)], args := [d] }
  | _ => none }
def FnExactSysBytesWrongFalsely : Prop := fnExactSysBytesRow.holds Try.pinned (OpenSpec.ofChange fnExactSysBytesWrong)

/-- 'laws.FnExactSysRead': WHATEVER THE INPUT: true; the input reads as it did. -/
def fnExactSysReadSpec : ChangeSpec := { name := "fnExactSysRead", fn := fun _ => fun
  | [d] => { results := [.lit (.bool true)], args := [d] }
  | _ => none }
def fnExactSysReadRow : OpenClaim := { program := "ytaohghgdjnkgdaa", sum := "9636d70fa4437a9c99acd0be87e635db2c1765843a8c7c0a2545d7e7bfeef325", func := "loop.example/g00543/laws.FnExactSysRead", spec := "fnExactSysRead", unfollowed := true, recurses := true, apart := false }
def FnExactSysReadSaid : Prop := fnExactSysReadRow.holds Try.pinned (OpenSpec.ofChange fnExactSysReadSpec)

/-- ITS FALSE NEIGHBOUR: 'it returns false'. Refute it at one input. -/
def fnExactSysReadWrong : ChangeSpec := { name := "fnExactSysRead", fn := fun _ => fun
  | [d] => { results := [.lit (.bool false)], args := [d] }
  | _ => none }
def FnExactSysReadWrongFalsely : Prop := fnExactSysReadRow.holds Try.pinned (OpenSpec.ofChange fnExactSysReadWrong)

/-- 'laws.FnExactVarCount': WHATEVER THE INPUT: true; the input reads as it did. -/
def fnExactVarCountSpec : ChangeSpec := { name := "fnExactVarCount", fn := fun _ => fun
  | [d] => { results := [.lit (.bool true)], args := [d] }
  | _ => none }
def fnExactVarCountRow : OpenClaim := { program := "ytaohghgdjnkgdaa", sum := "9636d70fa4437a9c99acd0be87e635db2c1765843a8c7c0a2545d7e7bfeef325", func := "loop.example/g00543/laws.FnExactVarCount", spec := "fnExactVarCount", apart := false }
def FnExactVarCountSaid : Prop := fnExactVarCountRow.holds Try.pinned (OpenSpec.ofChange fnExactVarCountSpec)

/-- ITS FALSE NEIGHBOUR: 'it returns false'. Refute it at one input. -/
def fnExactVarCountWrong : ChangeSpec := { name := "fnExactVarCount", fn := fun _ => fun
  | [d] => { results := [.lit (.bool false)], args := [d] }
  | _ => none }
def FnExactVarCountWrongFalsely : Prop := fnExactVarCountRow.holds Try.pinned (OpenSpec.ofChange fnExactVarCountWrong)

/-- 'laws.FnExactFailing': WHATEVER THE INPUT: true; the input reads as it did. -/
def fnExactFailingSpec : ChangeSpec := { name := "fnExactFailing", fn := fun _ => fun
  | [d1, d2] => { results := [.lit (.bool true)], args := [d1, d2] }
  | _ => none }
def fnExactFailingRow : OpenClaim := { program := "ytaohghgdjnkgdaa", sum := "9636d70fa4437a9c99acd0be87e635db2c1765843a8c7c0a2545d7e7bfeef325", func := "loop.example/g00543/laws.FnExactFailing", spec := "fnExactFailing", apart := false }
def FnExactFailingSaid : Prop := fnExactFailingRow.holds Try.pinned (OpenSpec.ofChange fnExactFailingSpec)

/-- ITS FALSE NEIGHBOUR: 'it returns false'. Refute it at one input. -/
def fnExactFailingWrong : ChangeSpec := { name := "fnExactFailing", fn := fun _ => fun
  | [d1, d2] => { results := [.lit (.bool false)], args := [d1, d2] }
  | _ => none }
def FnExactFailingWrongFalsely : Prop := fnExactFailingRow.holds Try.pinned (OpenSpec.ofChange fnExactFailingWrong)

/-- 'laws.FnExactInsOf': WHATEVER THE INPUT: true; the input reads as it did. -/
def fnExactInsOfSpec : ChangeSpec := { name := "fnExactInsOf", fn := fun _ => fun
  | [d1, d2] => { results := [.lit (.bool true)], args := [d1, d2] }
  | _ => none }
def fnExactInsOfRow : OpenClaim := { program := "ytaohghgdjnkgdaa", sum := "9636d70fa4437a9c99acd0be87e635db2c1765843a8c7c0a2545d7e7bfeef325", func := "loop.example/g00543/laws.FnExactInsOf", spec := "fnExactInsOf", apart := false }
def FnExactInsOfSaid : Prop := fnExactInsOfRow.holds Try.pinned (OpenSpec.ofChange fnExactInsOfSpec)

/-- ITS FALSE NEIGHBOUR: 'it returns false'. Refute it at one input. -/
def fnExactInsOfWrong : ChangeSpec := { name := "fnExactInsOf", fn := fun _ => fun
  | [d1, d2] => { results := [.lit (.bool false)], args := [d1, d2] }
  | _ => none }
def FnExactInsOfWrongFalsely : Prop := fnExactInsOfRow.holds Try.pinned (OpenSpec.ofChange fnExactInsOfWrong)

/-- 'laws.FnExactValue': WHATEVER THE INPUT: true; the input reads as it did. -/
def fnExactValueSpec : ChangeSpec := { name := "fnExactValue", fn := fun _ => fun
  | [d1, d2] => { results := [.lit (.bool true)], args := [d1, d2] }
  | _ => none }
def fnExactValueRow : OpenClaim := { program := "ytaohghgdjnkgdaa", sum := "9636d70fa4437a9c99acd0be87e635db2c1765843a8c7c0a2545d7e7bfeef325", func := "loop.example/g00543/laws.FnExactValue", spec := "fnExactValue", apart := false }
def FnExactValueSaid : Prop := fnExactValueRow.holds Try.pinned (OpenSpec.ofChange fnExactValueSpec)

/-- ITS FALSE NEIGHBOUR: 'it returns false'. Refute it at one input. -/
def fnExactValueWrong : ChangeSpec := { name := "fnExactValue", fn := fun _ => fun
  | [d1, d2] => { results := [.lit (.bool false)], args := [d1, d2] }
  | _ => none }
def FnExactValueWrongFalsely : Prop := fnExactValueRow.holds Try.pinned (OpenSpec.ofChange fnExactValueWrong)

/- THE SECOND FORM. 'bulk': how many values and letters a reading holds, each counted each time it is reached (what is shared counts as often as it is met; a slice's spare places count too). A statement '..UptoSaid' is the law's where the arguments, and the package variables that the reading takes, are together of bulk at most 1048576: NARROWER than '..Said'. Prove '..Said' where nothing that the law and all that it calls make is longer than what came in: it says more and counts as full. Else prove '..UptoSaid'. A law counts once. -/
mutual
def uptoBulk {H : Type} : DataW H → Nat
  | .lit (.string bytes) => bytes.length + 1
  | .lit _ => 1
  | .nil => 1
  | .ptr d => uptoBulk d + 1
  | .slice elems spare => uptoBulkAll elems + uptoBulkAll spare + 1
  | .agg parts => uptoBulkAll parts + 1
  | .iface _ d => uptoBulk d + 1
  | .map entries => uptoBulkEntries entries + 1
  | .held _ => 1
def uptoBulkAll {H : Type} : List (DataW H) → Nat
  | [] => 0
  | d :: r => uptoBulk d + uptoBulkAll r
def uptoBulkEntries {H : Type} : List (Lit × DataW H) → Nat
  | [] => 0
  | x :: r => uptoBulkEntry x + uptoBulkEntries r
def uptoBulkEntry {H : Type} : Lit × DataW H → Nat
  | (.string bytes, d) => bytes.length + uptoBulk d + 1
  | (_, d) => uptoBulk d + 1
 end
def uptoSmall : (H : Type) → List (DataW H) → Bool := fun _ ds => decide (uptoBulkAll ds ≤ 1048576)
def OpenSpec.upto (s : _root_.Go.ChangeSpec) : _root_.Go.OpenSpec := { _root_.Go.OpenSpec.ofChange s with cond := some uptoSmall }

/-- 'laws.FnExactSysOk', WHERE WHAT IT READS IS OF BULK AT MOST 1048576: true; the input reads as it did. -/
def fnExactSysOkUptoRow : OpenClaim := { program := "ytaohghgdjnkgdaa", sum := "9636d70fa4437a9c99acd0be87e635db2c1765843a8c7c0a2545d7e7bfeef325", func := "loop.example/g00543/laws.FnExactSysOk", spec := "fnExactSysOk", apart := false, narrowed := true }
def FnExactSysOkUptoSaid : Prop := fnExactSysOkUptoRow.holds Try.pinned (OpenSpec.upto fnExactSysOkSpec)

/-- 'laws.FnExactSysNew', WHERE WHAT IT READS IS OF BULK AT MOST 1048576: true; the input reads as it did. -/
def fnExactSysNewUptoRow : OpenClaim := { program := "ytaohghgdjnkgdaa", sum := "9636d70fa4437a9c99acd0be87e635db2c1765843a8c7c0a2545d7e7bfeef325", func := "loop.example/g00543/laws.FnExactSysNew", spec := "fnExactSysNew", apart := false, narrowed := true }
def FnExactSysNewUptoSaid : Prop := fnExactSysNewUptoRow.holds Try.pinned (OpenSpec.upto fnExactSysNewSpec)

/-- 'laws.FnExactHolds', WHERE WHAT IT READS IS OF BULK AT MOST 1048576: true; the input reads as it did. -/
def fnExactHoldsUptoRow : OpenClaim := { program := "ytaohghgdjnkgdaa", sum := "9636d70fa4437a9c99acd0be87e635db2c1765843a8c7c0a2545d7e7bfeef325", func := "loop.example/g00543/laws.FnExactHolds", spec := "fnExactHolds", apart := false, narrowed := true }
def FnExactHoldsUptoSaid : Prop := fnExactHoldsUptoRow.holds Try.pinned (OpenSpec.upto fnExactHoldsSpec)

/-- 'laws.FnExactCheck', WHERE WHAT IT READS IS OF BULK AT MOST 1048576: true; the input reads as it did. -/
def fnExactCheckUptoRow : OpenClaim := { program := "ytaohghgdjnkgdaa", sum := "9636d70fa4437a9c99acd0be87e635db2c1765843a8c7c0a2545d7e7bfeef325", func := "loop.example/g00543/laws.FnExactCheck", spec := "fnExactCheck", apart := false, narrowed := true }
def FnExactCheckUptoSaid : Prop := fnExactCheckUptoRow.holds Try.pinned (OpenSpec.upto fnExactCheckSpec)

/-- 'laws.FnExactOutsOf', WHERE WHAT IT READS IS OF BULK AT MOST 1048576: true; the input reads as it did. -/
def fnExactOutsOfUptoRow : OpenClaim := { program := "ytaohghgdjnkgdaa", sum := "9636d70fa4437a9c99acd0be87e635db2c1765843a8c7c0a2545d7e7bfeef325", func := "loop.example/g00543/laws.FnExactOutsOf", spec := "fnExactOutsOf", apart := false, narrowed := true }
def FnExactOutsOfUptoSaid : Prop := fnExactOutsOfUptoRow.holds Try.pinned (OpenSpec.upto fnExactOutsOfSpec)

/-- 'laws.FnExactSysBytes', WHERE WHAT IT READS IS OF BULK AT MOST 1048576: true; the input reads as it did. -/
def fnExactSysBytesUptoRow : OpenClaim := { program := "ytaohghgdjnkgdaa", sum := "9636d70fa4437a9c99acd0be87e635db2c1765843a8c7c0a2545d7e7bfeef325", func := "loop.example/g00543/laws.FnExactSysBytes", spec := "fnExactSysBytes", apart := false, narrowed := true }
def FnExactSysBytesUptoSaid : Prop := fnExactSysBytesUptoRow.holds Try.pinned (OpenSpec.upto fnExactSysBytesSpec)

/-- 'laws.FnExactSysRead', WHERE WHAT IT READS IS OF BULK AT MOST 1048576: true; the input reads as it did. -/
def fnExactSysReadUptoRow : OpenClaim := { program := "ytaohghgdjnkgdaa", sum := "9636d70fa4437a9c99acd0be87e635db2c1765843a8c7c0a2545d7e7bfeef325", func := "loop.example/g00543/laws.FnExactSysRead", spec := "fnExactSysRead", unfollowed := true, recurses := true, apart := false, narrowed := true }
def FnExactSysReadUptoSaid : Prop := fnExactSysReadUptoRow.holds Try.pinned (OpenSpec.upto fnExactSysReadSpec)

/-- 'laws.FnExactVarCount', WHERE WHAT IT READS IS OF BULK AT MOST 1048576: true; the input reads as it did. -/
def fnExactVarCountUptoRow : OpenClaim := { program := "ytaohghgdjnkgdaa", sum := "9636d70fa4437a9c99acd0be87e635db2c1765843a8c7c0a2545d7e7bfeef325", func := "loop.example/g00543/laws.FnExactVarCount", spec := "fnExactVarCount", apart := false, narrowed := true }
def FnExactVarCountUptoSaid : Prop := fnExactVarCountUptoRow.holds Try.pinned (OpenSpec.upto fnExactVarCountSpec)

/-- 'laws.FnExactFailing', WHERE WHAT IT READS IS OF BULK AT MOST 1048576: true; the input reads as it did. -/
def fnExactFailingUptoRow : OpenClaim := { program := "ytaohghgdjnkgdaa", sum := "9636d70fa4437a9c99acd0be87e635db2c1765843a8c7c0a2545d7e7bfeef325", func := "loop.example/g00543/laws.FnExactFailing", spec := "fnExactFailing", apart := false, narrowed := true }
def FnExactFailingUptoSaid : Prop := fnExactFailingUptoRow.holds Try.pinned (OpenSpec.upto fnExactFailingSpec)

/-- 'laws.FnExactInsOf', WHERE WHAT IT READS IS OF BULK AT MOST 1048576: true; the input reads as it did. -/
def fnExactInsOfUptoRow : OpenClaim := { program := "ytaohghgdjnkgdaa", sum := "9636d70fa4437a9c99acd0be87e635db2c1765843a8c7c0a2545d7e7bfeef325", func := "loop.example/g00543/laws.FnExactInsOf", spec := "fnExactInsOf", apart := false, narrowed := true }
def FnExactInsOfUptoSaid : Prop := fnExactInsOfUptoRow.holds Try.pinned (OpenSpec.upto fnExactInsOfSpec)

/-- 'laws.FnExactValue', WHERE WHAT IT READS IS OF BULK AT MOST 1048576: true; the input reads as it did. -/
def fnExactValueUptoRow : OpenClaim := { program := "ytaohghgdjnkgdaa", sum := "9636d70fa4437a9c99acd0be87e635db2c1765843a8c7c0a2545d7e7bfeef325", func := "loop.example/g00543/laws.FnExactValue", spec := "fnExactValue", apart := false, narrowed := true }
def FnExactValueUptoSaid : Prop := fnExactValueUptoRow.holds Try.pinned (OpenSpec.upto fnExactValueSpec)

end Rows
end Go.Proofs.Ytaohghgdjnkgdaa
