/-
  No cell of these rows narrows 'for every input' (looked for: loops, veiled, ifaces, maps, wideKeys, modest, calm, conditions, laid).
  DERIVED. THE GIVEN ROWS OF THIS SEAT. 6 by the template 'for every input the law returns true; each argument reads behind the call as it read before'; 0 by the template 'total and deterministic' (their statements: YtplphfgacomhkaaTotals.lean).
  GIVEN WITH THE SEED: the statements are not yours to turn. If you find one false, say at which input.
  Laid BY PROGRAM, IN A SANDBOX (cutbox-rows.mjs): the forced cells as the released guide's own fill.sh prints them over the translation eb64424712192758… (all of the seat's roots in one cut). By AI agents, Wed Nov 11 2026. No macro, syntax, notation, axiom, sorry.
-/
import Derived.Test.YtplphfgacomhkaaChecked
import GoSem.Claim
import GoSem.ClaimJoined
import GoSem.ClaimMapViews
import Derived.JoinedTies
import Derived.KernelRfl
namespace Go.Proofs.Ytplphfgacomhkaa
/- THE CELL 'sum', in the pinned program and in every row, IS THE sha256 OF THE DUMP (.gsa) THAT YtplphfgacomhkaaProg.lean LOADS. Nothing in Lean hashes anything: it is a label: what it is worth is what the hold of that sum in a sandbox is worth. -/
noncomputable def Try.pinned : Pinned := { name := "ytplphfgacomhkaa", sum := "eb6442471219275892effc0297fb8b30b19f1876c6d9d2035071ab6780a57b5d", checked := Try.checked }
namespace Rows
def none {H : Type} : Left H := { results := [], args := [] }

/-- 'laws.FnExactSix': WHATEVER THE INPUT: true; the input reads as it did. -/
def fnExactSixSpec : ChangeSpec := { name := "fnExactSix", fn := fun _ => fun
  | [d] => { results := [.lit (.bool true)], args := [d] }
  | _ => none }
def fnExactSixRow : OpenClaim := { program := "ytplphfgacomhkaa", sum := "eb6442471219275892effc0297fb8b30b19f1876c6d9d2035071ab6780a57b5d", func := "loop.example/g00543/laws.FnExactSix", spec := "fnExactSix", apart := false }
def FnExactSixSaid : Prop := fnExactSixRow.holds Try.pinned (OpenSpec.ofChange fnExactSixSpec)

/-- ITS FALSE NEIGHBOUR: 'it returns false'. Refute it at one input. -/
def fnExactSixWrong : ChangeSpec := { name := "fnExactSix", fn := fun _ => fun
  | [d] => { results := [.lit (.bool false)], args := [d] }
  | _ => none }
def FnExactSixWrongFalsely : Prop := fnExactSixRow.holds Try.pinned (OpenSpec.ofChange fnExactSixWrong)

/-- 'laws.FnExactChar': WHATEVER THE INPUT: true; the input reads as it did. -/
def fnExactCharSpec : ChangeSpec := { name := "fnExactChar", fn := fun _ => fun
  | [d] => { results := [.lit (.bool true)], args := [d] }
  | _ => none }
def fnExactCharRow : OpenClaim := { program := "ytplphfgacomhkaa", sum := "eb6442471219275892effc0297fb8b30b19f1876c6d9d2035071ab6780a57b5d", func := "loop.example/g00543/laws.FnExactChar", spec := "fnExactChar", apart := false }
def FnExactCharSaid : Prop := fnExactCharRow.holds Try.pinned (OpenSpec.ofChange fnExactCharSpec)

/-- ITS FALSE NEIGHBOUR: 'it returns false'. Refute it at one input. -/
def fnExactCharWrong : ChangeSpec := { name := "fnExactChar", fn := fun _ => fun
  | [d] => { results := [.lit (.bool false)], args := [d] }
  | _ => none }
def FnExactCharWrongFalsely : Prop := fnExactCharRow.holds Try.pinned (OpenSpec.ofChange fnExactCharWrong)

/-- 'laws.FnExactDecode64': WHATEVER THE INPUT: true; the input reads as it did. -/
def fnExactDecode64Spec : ChangeSpec := { name := "fnExactDecode64", fn := fun _ => fun
  | [d] => { results := [.lit (.bool true)], args := [d] }
  | _ => none }
def fnExactDecode64Row : OpenClaim := { program := "ytplphfgacomhkaa", sum := "eb6442471219275892effc0297fb8b30b19f1876c6d9d2035071ab6780a57b5d", func := "loop.example/g00543/laws.FnExactDecode64", spec := "fnExactDecode64", apart := false }
def FnExactDecode64Said : Prop := fnExactDecode64Row.holds Try.pinned (OpenSpec.ofChange fnExactDecode64Spec)

/-- ITS FALSE NEIGHBOUR: 'it returns false'. Refute it at one input. -/
def fnExactDecode64Wrong : ChangeSpec := { name := "fnExactDecode64", fn := fun _ => fun
  | [d] => { results := [.lit (.bool false)], args := [d] }
  | _ => none }
def FnExactDecode64WrongFalsely : Prop := fnExactDecode64Row.holds Try.pinned (OpenSpec.ofChange fnExactDecode64Wrong)

/-- 'laws.FnExactEncode64': WHATEVER THE INPUT: true; the input reads as it did. -/
def fnExactEncode64Spec : ChangeSpec := { name := "fnExactEncode64", fn := fun _ => fun
  | [d] => { results := [.lit (.bool true)], args := [d] }
  | _ => none }
def fnExactEncode64Row : OpenClaim := { program := "ytplphfgacomhkaa", sum := "eb6442471219275892effc0297fb8b30b19f1876c6d9d2035071ab6780a57b5d", func := "loop.example/g00543/laws.FnExactEncode64", spec := "fnExactEncode64", apart := false }
def FnExactEncode64Said : Prop := fnExactEncode64Row.holds Try.pinned (OpenSpec.ofChange fnExactEncode64Spec)

/-- ITS FALSE NEIGHBOUR: 'it returns false'. Refute it at one input. -/
def fnExactEncode64Wrong : ChangeSpec := { name := "fnExactEncode64", fn := fun _ => fun
  | [d] => { results := [.lit (.bool false)], args := [d] }
  | _ => none }
def FnExactEncode64WrongFalsely : Prop := fnExactEncode64Row.holds Try.pinned (OpenSpec.ofChange fnExactEncode64Wrong)

/-- 'laws.FnSixes': WHATEVER THE INPUT: true; the input reads as it did. -/
def fnSixesSpec : ChangeSpec := { name := "fnSixes", fn := fun _ => fun
  | [d] => { results := [.lit (.bool true)], args := [d] }
  | _ => none }
def fnSixesRow : OpenClaim := { program := "ytplphfgacomhkaa", sum := "eb6442471219275892effc0297fb8b30b19f1876c6d9d2035071ab6780a57b5d", func := "loop.example/g00543/laws.FnSixes", spec := "fnSixes", apart := false }
def FnSixesSaid : Prop := fnSixesRow.holds Try.pinned (OpenSpec.ofChange fnSixesSpec)

/-- ITS FALSE NEIGHBOUR: 'it returns false'. Refute it at one input. -/
def fnSixesWrong : ChangeSpec := { name := "fnSixes", fn := fun _ => fun
  | [d] => { results := [.lit (.bool false)], args := [d] }
  | _ => none }
def FnSixesWrongFalsely : Prop := fnSixesRow.holds Try.pinned (OpenSpec.ofChange fnSixesWrong)

/-- 'laws.FnCodes': WHATEVER THE INPUT: true; the input reads as it did. -/
def fnCodesSpec : ChangeSpec := { name := "fnCodes", fn := fun _ => fun
  | [d] => { results := [.lit (.bool true)], args := [d] }
  | _ => none }
def fnCodesRow : OpenClaim := { program := "ytplphfgacomhkaa", sum := "eb6442471219275892effc0297fb8b30b19f1876c6d9d2035071ab6780a57b5d", func := "loop.example/g00543/laws.FnCodes", spec := "fnCodes", apart := false }
def FnCodesSaid : Prop := fnCodesRow.holds Try.pinned (OpenSpec.ofChange fnCodesSpec)

/-- ITS FALSE NEIGHBOUR: 'it returns false'. Refute it at one input. -/
def fnCodesWrong : ChangeSpec := { name := "fnCodes", fn := fun _ => fun
  | [d] => { results := [.lit (.bool false)], args := [d] }
  | _ => none }
def FnCodesWrongFalsely : Prop := fnCodesRow.holds Try.pinned (OpenSpec.ofChange fnCodesWrong)

/- THE SECOND FORM. 'bulk': how many values and letters a reading holds, each counted each time it is reached (what is shared counts as often as it is met; a slice's spare places count too). A statement '..UptoSaid' is the law's where the arguments, and the package variables that the reading takes, are together of bulk at most 1048576: NARROWER than '..Said'. Prove '..Said' where nothing that the law and all that it calls make is longer than what came in: it says more and counts as full. Else prove '..UptoSaid'. A law counts once. -/
mutual
def uptoBulk {H : Type} : DataW H → Nat
  | .lit (.string bytes) => bytes.length + 1
  | .lit _ => 1
  | .nil => 1
  | .ptr d => uptoBulk d + 1
  | .slice elems spare => uptoBulkAll elems + uptoBulkAll spare + 1
  | .agg parts => uptoBulkAll parts + 1
  | .iface _ d => uptoBulk d + 1
  | .map entries => uptoBulkEntries entries + 1
  | .held _ => 1
def uptoBulkAll {H : Type} : List (DataW H) → Nat
  | [] => 0
  | d :: r => uptoBulk d + uptoBulkAll r
def uptoBulkEntries {H : Type} : List (Lit × DataW H) → Nat
  | [] => 0
  | x :: r => uptoBulkEntry x + uptoBulkEntries r
def uptoBulkEntry {H : Type} : Lit × DataW H → Nat
  | (.string bytes, d) => bytes.length + uptoBulk d + 1
  | (_, d) => uptoBulk d + 1
 end
def uptoSmall : (H : Type) → List (DataW H) → Bool := fun _ ds => decide (uptoBulkAll ds ≤ 1048576)
def OpenSpec.upto (s : _root_.Go.ChangeSpec) : _root_.Go.OpenSpec := { _root_.Go.OpenSpec.ofChange s with cond := some uptoSmall }

/-- 'laws.FnExactSix', WHERE WHAT IT READS IS OF BULK AT MOST 1048576: true; the input reads as it did. -/
def fnExactSixUptoRow : OpenClaim := { program := "ytplphfgacomhkaa", sum := "eb6442471219275892effc0297fb8b30b19f1876c6d9d2035071ab6780a57b5d", func := "loop.example/g00543/laws.FnExactSix", spec := "fnExactSix", apart := false, narrowed := true }
def FnExactSixUptoSaid : Prop := fnExactSixUptoRow.holds Try.pinned (OpenSpec.upto fnExactSixSpec)

/-- 'laws.FnExactChar', WHERE WHAT IT READS IS OF BULK AT MOST 1048576: true; the input reads as it did. -/
def fnExactCharUptoRow : OpenClaim := { program := "ytplphfgacomhkaa", sum := "eb6442471219275892effc0297fb8b30b19f1876c6d9d2035071ab6780a57b5d", func := "loop.example/g00543/laws.FnExactChar", spec := "fnExactChar", apart := false, narrowed := true }
def FnExactCharUptoSaid : Prop := fnExactCharUptoRow.holds Try.pinned (OpenSpec.upto fnExactCharSpec)

/-- 'laws.FnExactDecode64', WHERE WHAT IT READS IS OF BULK AT MOST 1048576: true; the input reads as it did. -/
def fnExactDecode64UptoRow : OpenClaim := { program := "ytplphfgacomhkaa", sum := "eb6442471219275892effc0297fb8b30b19f1876c6d9d2035071ab6780a57b5d", func := "loop.example/g00543/laws.FnExactDecode64", spec := "fnExactDecode64", apart := false, narrowed := true }
def FnExactDecode64UptoSaid : Prop := fnExactDecode64UptoRow.holds Try.pinned (OpenSpec.upto fnExactDecode64Spec)

/-- 'laws.FnExactEncode64', WHERE WHAT IT READS IS OF BULK AT MOST 1048576: true; the input reads as it did. -/
def fnExactEncode64UptoRow : OpenClaim := { program := "ytplphfgacomhkaa", sum := "eb6442471219275892effc0297fb8b30b19f1876c6d9d2035071ab6780a57b5d", func := "loop.example/g00543/laws.FnExactEncode64", spec := "fnExactEncode64", apart := false, narrowed := true }
def FnExactEncode64UptoSaid : Prop := fnExactEncode64UptoRow.holds Try.pinned (OpenSpec.upto fnExactEncode64Spec)

/-- 'laws.FnSixes', WHERE WHAT IT READS IS OF BULK AT MOST 1048576: true; the input reads as it did. -/
def fnSixesUptoRow : OpenClaim := { program := "ytplphfgacomhkaa", sum := "eb6442471219275892effc0297fb8b30b19f1876c6d9d2035071ab6780a57b5d", func := "loop.example/g00543/laws.FnSixes", spec := "fnSixes", apart := false, narrowed := true }
def FnSixesUptoSaid : Prop := fnSixesUptoRow.holds Try.pinned (OpenSpec.upto fnSixesSpec)

/-- 'laws.FnCodes', WHERE WHAT IT READS IS OF BULK AT MOST 1048576: true; the input reads as it did. -/
def fnCodesUptoRow : OpenClaim := { program := "ytplphfgacomhkaa", sum := "eb6442471219275892effc0297fb8b30b19f1876c6d9d2035071ab6780a57b5d", func := "loop.example/g00543/laws.FnCodes", spec := "fnCodes", apart := false, narrowed := true }
def FnCodesUptoSaid : Prop := fnCodesUptoRow.holds Try.pinned (OpenSpec.upto fnCodesSpec)

end Rows
end Go.Proofs.Ytplphfgacomhkaa
