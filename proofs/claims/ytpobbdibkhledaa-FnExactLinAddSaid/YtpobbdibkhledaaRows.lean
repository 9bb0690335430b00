/-
  No cell of these rows narrows 'for every input' (looked for: loops, veiled, ifaces, maps, wideKeys, modest, calm, conditions, laid).
  DERIVED. THE GIVEN ROWS OF THIS SEAT. 14 by the template 'for every input the law returns true; each argument reads behind the call as it read before'; 0 by the template 'total and deterministic' (their statements: YtpobbdibkhledaaTotals.lean).
  GIVEN WITH THE SEED: the statements are not yours to turn. If you find one false, say at which input.
  Laid BY PROGRAM, IN A SANDBOX (cutbox-rows.mjs): the forced cells as the released guide's own fill.sh prints them over the translation a96f8f203528ca0d… (all of the seat's roots in one cut). By AI agents, Wed Nov 11 2026. No macro, syntax, notation, axiom, sorry.
-/
import Derived.Test.YtpobbdibkhledaaChecked
import GoSem.Claim
import GoSem.ClaimJoined
import GoSem.ClaimMapViews
import Derived.JoinedTies
import Derived.KernelRfl
namespace Go.Proofs.Ytpobbdibkhledaa
/- THE CELL 'sum', in the pinned program and in every row, IS THE sha256 OF THE DUMP (.gsa) THAT YtpobbdibkhledaaProg.lean LOADS. Nothing in Lean hashes anything: it is a label: what it is worth is what the hold of that sum in a sandbox is worth. -/
noncomputable def Try.pinned : Pinned := { name := "ytpobbdibkhledaa", sum := "a96f8f203528ca0d23f264b821249edcf284c262bfb1fb7cd225c7b4f494a05d", checked := Try.checked }
namespace Rows
def none {H : Type} : Left H := { results := [], args := [] }

/-- 'laws.FnValues': WHATEVER THE INPUT: true; the input reads as it did. -/
def fnValuesSpec : ChangeSpec := { name := "fnValues", fn := fun _ => fun
  | [d] => { results := [.lit (.bool true)], args := [d] }
  | _ => none }
def fnValuesRow : OpenClaim := { program := "ytpobbdibkhledaa", sum := "a96f8f203528ca0d23f264b821249edcf284c262bfb1fb7cd225c7b4f494a05d", func := "loop.example/g00543/laws.FnValues", spec := "fnValues", unfollowed := true, recurses := true, apart := false }
def FnValuesSaid : Prop := fnValuesRow.holds Try.pinned (OpenSpec.ofChange fnValuesSpec)

/-- ITS FALSE NEIGHBOUR: 'it returns false'. Refute it at one input. -/
def fnValuesWrong : ChangeSpec := { name := "fnValues", fn := fun _ => fun
  | [d] => { results := [.lit (.bool false)], args := [d] }
  | _ => none }
def FnValuesWrongFalsely : Prop := fnValuesRow.holds Try.pinned (OpenSpec.ofChange fnValuesWrong)

/-- 'laws.FnLinParts': WHATEVER THE INPUT: true; the input reads as it did. -/
def fnLinPartsSpec : ChangeSpec := { name := "fnLinParts", fn := fun _ => fun
  | [d] => { results := [.lit (.bool true)], args := [d] }
  | _ => none }
def fnLinPartsRow : OpenClaim := { program := "ytpobbdibkhledaa", sum := "a96f8f203528ca0d23f264b821249edcf284c262bfb1fb7cd225c7b4f494a05d", func := "loop.example/g00543/laws.FnLinParts", spec := "fnLinParts", unfollowed := true, recurses := true, apart := false }
def FnLinPartsSaid : Prop := fnLinPartsRow.holds Try.pinned (OpenSpec.ofChange fnLinPartsSpec)

/-- ITS FALSE NEIGHBOUR: 'it returns false'. Refute it at one input. -/
def fnLinPartsWrong : ChangeSpec := { name := "fnLinParts", fn := fun _ => fun
  | [d] => { results := [.lit (.bool false)], args := [d] }
  | _ => none }
def FnLinPartsWrongFalsely : Prop := fnLinPartsRow.holds Try.pinned (OpenSpec.ofChange fnLinPartsWrong)

/-- 'laws.FnLinSums': WHATEVER THE INPUT: true; the input reads as it did. -/
def fnLinSumsSpec : ChangeSpec := { name := "fnLinSums", fn := fun _ => fun
  | [d] => { results := [.lit (.bool true)], args := [d] }
  | _ => none }
def fnLinSumsRow : OpenClaim := { program := "ytpobbdibkhledaa", sum := "a96f8f203528ca0d23f264b821249edcf284c262bfb1fb7cd225c7b4f494a05d", func := "loop.example/g00543/laws.FnLinSums", spec := "fnLinSums", unfollowed := true, recurses := true, apart := false }
def FnLinSumsSaid : Prop := fnLinSumsRow.holds Try.pinned (OpenSpec.ofChange fnLinSumsSpec)

/-- ITS FALSE NEIGHBOUR: 'it returns false'. Refute it at one input. -/
def fnLinSumsWrong : ChangeSpec := { name := "fnLinSums", fn := fun _ => fun
  | [d] => { results := [.lit (.bool false)], args := [d] }
  | _ => none }
def FnLinSumsWrongFalsely : Prop := fnLinSumsRow.holds Try.pinned (OpenSpec.ofChange fnLinSumsWrong)

/-- 'laws.FnExactLinOk': WHATEVER THE INPUT: true; the input reads as it did. -/
def fnExactLinOkSpec : ChangeSpec := { name := "fnExactLinOk", fn := fun _ => fun
  | [d] => { results := [.lit (.bool true)], args := [d] }
  | _ => none }
def fnExactLinOkRow : OpenClaim := { program := "ytpobbdibkhledaa", sum := "a96f8f203528ca0d23f264b821249edcf284c262bfb1fb7cd225c7b4f494a05d", func := "loop.example/g00543/laws.FnExactLinOk", spec := "fnExactLinOk", apart := false }
def FnExactLinOkSaid : Prop := fnExactLinOkRow.holds Try.pinned (OpenSpec.ofChange fnExactLinOkSpec)

/-- ITS FALSE NEIGHBOUR: 'it returns false'. Refute it at one input. -/
def fnExactLinOkWrong : ChangeSpec := { name := "fnExactLinOk", fn := fun _ => fun
  | [d] => { results := [.lit (.bool false)], args := [d] }
  | _ => none }
def FnExactLinOkWrongFalsely : Prop := fnExactLinOkRow.holds Try.pinned (OpenSpec.ofChange fnExactLinOkWrong)

/-- 'laws.FnExactConst': WHATEVER THE INPUT: true; the input reads as it did. -/
def fnExactConstSpec : ChangeSpec := { name := "fnExactConst", fn := fun _ => fun
  | [d] => { results := [.lit (.bool true)], args := [d] }
  | _ => none }
def fnExactConstRow : OpenClaim := { program := "ytpobbdibkhledaa", sum := "a96f8f203528ca0d23f264b821249edcf284c262bfb1fb7cd225c7b4f494a05d", func := "loop.example/g00543/laws.FnExactConst", spec := "fnExactConst", apart := false }
def FnExactConstSaid : Prop := fnExactConstRow.holds Try.pinned (OpenSpec.ofChange fnExactConstSpec)

/-- ITS FALSE NEIGHBOUR: 'it returns false'. Refute it at one input. -/
def fnExactConstWrong : ChangeSpec := { name := "fnExactConst", fn := fun _ => fun
  | [d] => { results := [.lit (.bool false)], args := [d] }
  | _ => none }
def FnExactConstWrongFalsely : Prop := fnExactConstRow.holds Try.pinned (OpenSpec.ofChange fnExactConstWrong)

/-- 'laws.FnExactVarOf': WHATEVER THE INPUT: true; the input reads as it did. -/
def fnExactVarOfSpec : ChangeSpec := { name := "fnExactVarOf", fn := fun _ => fun
  | [d] => { results := [.lit (.bool true)], args := [d] }
  | _ => none }
def fnExactVarOfRow : OpenClaim := { program := "ytpobbdibkhledaa", sum := "a96f8f203528ca0d23f264b821249edcf284c262bfb1fb7cd225c7b4f494a05d", func := "loop.example/g00543/laws.FnExactVarOf", spec := "fnExactVarOf", apart := false }
def FnExactVarOfSaid : Prop := fnExactVarOfRow.holds Try.pinned (OpenSpec.ofChange fnExactVarOfSpec)

/-- ITS FALSE NEIGHBOUR: 'it returns false'. Refute it at one input. -/
def fnExactVarOfWrong : ChangeSpec := { name := "fnExactVarOf", fn := fun _ => fun
  | [d] => { results := [.lit (.bool false)], args := [d] }
  | _ => none }
def FnExactVarOfWrongFalsely : Prop := fnExactVarOfRow.holds Try.pinned (OpenSpec.ofChange fnExactVarOfWrong)

/-- 'laws.FnExactLinAdd': WHATEVER THE INPUT: true; the input reads as it did. -/
def fnExactLinAddSpec : ChangeSpec := { name := "fnExactLinAdd", fn := fun _ => fun
  | [d1, d2] => { results := [.lit (.bool true)], args := [d1, d2] }
  | _ => none }
def fnExactLinAddRow : OpenClaim := { program := "ytpobbdibkhledaa", sum := "a96f8f203528ca0d23f264b821249edcf284c262bfb1fb7cd225c7b4f494a05d", func := "loop.example/g00543/laws.FnExactLinAdd", spec := "fnExactLinAdd", unfollowed := true, recurses := true, apart := false }
def FnExactLinAddSaid : Prop := fnExactLinAddRow.holds Try.pinned (OpenSpec.ofChange fnExactLinAddSpec)

/-- ITS FALSE NEIGHBOUR: 'it returns false'. Refute it at one input. -/
def fnExactLinAddWrong : ChangeSpec := { name := "fnExactLinAdd", fn := fun _ => fun
  | [d1, d2] => { results := [.lit (.bool false)], args := [d1, d2] }
  | _ => none }
def FnExactLinAddWrongFalsely : Prop := fnExactLinAddRow.holds Try.pinned (OpenSpec.ofChange fnExactLinAddWrong)

/-- 'laws.FnExactLinSub': WHATEVER THE INPUT: true; the input reads as it did. -/
def fnExactLinSubSpec : ChangeSpec := { name := "fnExactLinSub", fn := fun _ => fun
  | [d1, d2] => { results := [.lit (.bool true)], args := [d1, d2] }
  | _ => none }
def fnExactLinSubRow : OpenClaim := { program := "ytpobbdibkhledaa", sum := "a96f8f203528ca0d23f264b821249edcf284c262bfb1fb7cd225c7b4f494a05d", func := "loop.example/g00543/laws.FnExactLinSub", spec := "fnExactLinSub", unfollowed := true, recurses := true, apart := false }
def FnExactLinSubSaid : Prop := fnExactLinSubRow.holds Try.pinned (OpenSpec.ofChange fnExactLinSubSpec)

/-- ITS FALSE NEIGHBOUR: 'it returns false'. Refute it at one input. -/
def fnExactLinSubWrong : ChangeSpec := { name := "fnExactLinSub", fn := fun _ => fun
  | [d1, d2] => { results := [.lit (.bool false)], args := [d1, d2] }
  | _ => none }
def FnExactLinSubWrongFalsely : Prop := fnExactLinSubRow.holds Try.pinned (OpenSpec.ofChange fnExactLinSubWrong)

/-- 'laws.FnExactLinTimes': WHATEVER THE INPUT: true; the input reads as it did. -/
def fnExactLinTimesSpec : ChangeSpec := { name := "fnExactLinTimes", fn := fun _ => fun
  | [d1, d2] => { results := [.lit (.bool true)], args := [d1, d2] }
  | _ => none }
def fnExactLinTimesRow : OpenClaim := { program := "ytpobbdibkhledaa", sum := "a96f8f203528ca0d23f264b821249edcf284c262bfb1fb7cd225c7b4f494a05d", func := "loop.example/g00543/laws.FnExactLinTimes", spec := "fnExactLinTimes", unfollowed := true, recurses := true, apart := false }
def FnExactLinTimesSaid : Prop := fnExactLinTimesRow.holds Try.pinned (OpenSpec.ofChange fnExactLinTimesSpec)

/-- ITS FALSE NEIGHBOUR: 'it returns false'. Refute it at one input. -/
def fnExactLinTimesWrong : ChangeSpec := { name := "fnExactLinTimes", fn := fun _ => fun
  | [d1, d2] => { results := [.lit (.bool false)], args := [d1, d2] }
  | _ => none }
def FnExactLinTimesWrongFalsely : Prop := fnExactLinTimesRow.holds Try.pinned (OpenSpec.ofChange fnExactLinTimesWrong)

/-- 'laws.FnExactValue': WHATEVER THE INPUT: true; the input reads as it did. -/
def fnExactValueSpec : ChangeSpec := { name := "fnExactValue", fn := fun _ => fun
  | [d1, d2] => { results := [.lit (.bool true)], args := [d1, d2] }
  | _ => none }
def fnExactValueRow : OpenClaim := { program := "ytpobbdibkhledaa", sum := "a96f8f203528ca0d23f264b821249edcf284c262bfb1fb7cd225c7b4f494a05d", func := "loop.example/g00543/laws.FnExactValue", spec := "fnExactValue", apart := false }
def FnExactValueSaid : Prop := fnExactValueRow.holds Try.pinned (OpenSpec.ofChange fnExactValueSpec)

/-- ITS FALSE NEIGHBOUR: 'it returns false'. Refute it at one input. -/
def fnExactValueWrong : ChangeSpec := { name := "fnExactValue", fn := fun _ => fun
  | [d1, d2] => { results := [.lit (.bool false)], args := [d1, d2] }
  | _ => none }
def FnExactValueWrongFalsely : Prop := fnExactValueRow.holds Try.pinned (OpenSpec.ofChange fnExactValueWrong)

/-- 'laws.FnExactLinNeg': WHATEVER THE INPUT: true; the input reads as it did. -/
def fnExactLinNegSpec : ChangeSpec := { name := "fnExactLinNeg", fn := fun _ => fun
  | [d] => { results := [.lit (.bool true)], args := [d] }
  | _ => none }
def fnExactLinNegRow : OpenClaim := { program := "ytpobbdibkhledaa", sum := "a96f8f203528ca0d23f264b821249edcf284c262bfb1fb7cd225c7b4f494a05d", func := "loop.example/g00543/laws.FnExactLinNeg", spec := "fnExactLinNeg", unfollowed := true, recurses := true, apart := false }
def FnExactLinNegSaid : Prop := fnExactLinNegRow.holds Try.pinned (OpenSpec.ofChange fnExactLinNegSpec)

/-- ITS FALSE NEIGHBOUR: 'it returns false'. Refute it at one input. -/
def fnExactLinNegWrong : ChangeSpec := { name := "fnExactLinNeg", fn := fun _ => fun
  | [d] => { results := [.lit (.bool false)], args := [d] }
  | _ => none }
def FnExactLinNegWrongFalsely : Prop := fnExactLinNegRow.holds Try.pinned (OpenSpec.ofChange fnExactLinNegWrong)

/-- 'laws.FnExactVarsOf': WHATEVER THE INPUT: true; the input reads as it did. -/
def fnExactVarsOfSpec : ChangeSpec := { name := "fnExactVarsOf", fn := fun _ => fun
  | [d] => { results := [.lit (.bool true)], args := [d] }
  | _ => none }
def fnExactVarsOfRow : OpenClaim := { program := "ytpobbdibkhledaa", sum := "a96f8f203528ca0d23f264b821249edcf284c262bfb1fb7cd225c7b4f494a05d", func := "loop.example/g00543/laws.FnExactVarsOf", spec := "fnExactVarsOf", apart := false }
def FnExactVarsOfSaid : Prop := fnExactVarsOfRow.holds Try.pinned (OpenSpec.ofChange fnExactVarsOfSpec)

/-- ITS FALSE NEIGHBOUR: 'it returns false'. Refute it at one input. -/
def fnExactVarsOfWrong : ChangeSpec := { name := "fnExactVarsOf", fn := fun _ => fun
  | [d] => { results := [.lit (.bool false)], args := [d] }
  | _ => none }
def FnExactVarsOfWrongFalsely : Prop := fnExactVarsOfRow.holds Try.pinned (OpenSpec.ofChange fnExactVarsOfWrong)

/-- 'laws.FnExactCoeff': WHATEVER THE INPUT: true; the input reads as it did. -/
def fnExactCoeffSpec : ChangeSpec := { name := "fnExactCoeff", fn := fun _ => fun
  | [d1, d2] => { results := [.lit (.bool true)], args := [d1, d2] }
  | _ => none }
def fnExactCoeffRow : OpenClaim := { program := "ytpobbdibkhledaa", sum := "a96f8f203528ca0d23f264b821249edcf284c262bfb1fb7cd225c7b4f494a05d", func := "loop.example/g00543/laws.FnExactCoeff", spec := "fnExactCoeff", apart := false }
def FnExactCoeffSaid : Prop := fnExactCoeffRow.holds Try.pinned (OpenSpec.ofChange fnExactCoeffSpec)

/-- ITS FALSE NEIGHBOUR: 'it returns false'. Refute it at one input. -/
def fnExactCoeffWrong : ChangeSpec := { name := "fnExactCoeff", fn := fun _ => fun
  | [d1, d2] => { results := [.lit (.bool false)], args := [d1, d2] }
  | _ => none }
def FnExactCoeffWrongFalsely : Prop := fnExactCoeffRow.holds Try.pinned (OpenSpec.ofChange fnExactCoeffWrong)

/-- 'laws.FnExactLinSum': WHATEVER THE INPUT: true; the input reads as it did. -/
def fnExactLinSumSpec : ChangeSpec := { name := "fnExactLinSum", fn := fun _ => fun
  | [d] => { results := [.lit (.bool true)], args := [d] }
  | _ => none }
def fnExactLinSumRow : OpenClaim := { program := "ytpobbdibkhledaa", sum := "a96f8f203528ca0d23f264b821249edcf284c262bfb1fb7cd225c7b4f494a05d", func := "loop.example/g00543/laws.FnExactLinSum", spec := "fnExactLinSum", unfollowed := true, recurses := true, apart := false }
def FnExactLinSumSaid : Prop := fnExactLinSumRow.holds Try.pinned (OpenSpec.ofChange fnExactLinSumSpec)

/-- ITS FALSE NEIGHBOUR: 'it returns false'. Refute it at one input. -/
def fnExactLinSumWrong : ChangeSpec := { name := "fnExactLinSum", fn := fun _ => fun
  | [d] => { results := [.lit (.bool false)], args := [d] }
  | _ => none }
def FnExactLinSumWrongFalsely : Prop := fnExactLinSumRow.holds Try.pinned (OpenSpec.ofChange fnExactLinSumWrong)

/- THE SECOND FORM. 'bulk': how many values and letters a reading holds, each counted each time it is reached (what is shared counts as often as it is met; a slice's spare places count too). A statement '..UptoSaid' is the law's where the arguments, and the package variables that the reading takes, are together of bulk at most 1048576: NARROWER than '..Said'. Prove '..Said' where nothing that the law and all that it calls make is longer than what came in: it says more and counts as full. Else prove '..UptoSaid'. A law counts once. -/
mutual
def uptoBulk {H : Type} : DataW H → Nat
  | .lit (.string bytes) => bytes.length + 1
  | .lit _ => 1
  | .nil => 1
  | .ptr d => uptoBulk d + 1
  | .slice elems spare => uptoBulkAll elems + uptoBulkAll spare + 1
  | .agg parts => uptoBulkAll parts + 1
  | .iface _ d => uptoBulk d + 1
  | .map entries => uptoBulkEntries entries + 1
  | .held _ => 1
def uptoBulkAll {H : Type} : List (DataW H) → Nat
  | [] => 0
  | d :: r => uptoBulk d + uptoBulkAll r
def uptoBulkEntries {H : Type} : List (Lit × DataW H) → Nat
  | [] => 0
  | x :: r => uptoBulkEntry x + uptoBulkEntries r
def uptoBulkEntry {H : Type} : Lit × DataW H → Nat
  | (.string bytes, d) => bytes.length + uptoBulk d + 1
  | (_, d) => uptoBulk d + 1
 end
def uptoSmall : (H : Type) → List (DataW H) → Bool := fun _ ds => decide (uptoBulkAll ds ≤ 1048576)
def OpenSpec.upto (s : _root_.Go.ChangeSpec) : _root_.Go.OpenSpec := { _root_.Go.OpenSpec.ofChange s with cond := some uptoSmall }

/-- 'laws.FnValues', WHERE WHAT IT READS IS OF BULK AT MOST 1048576: true; the input reads as it did. -/
def fnValuesUptoRow : OpenClaim := { program := "ytpobbdibkhledaa", sum := "a96f8f203528ca0d23f264b821249edcf284c262bfb1fb7cd225c7b4f494a05d", func := "loop.example/g00543/laws.FnValues", spec := "fnValues", unfollowed := true, recurses := true, apart := false, narrowed := true }
def FnValuesUptoSaid : Prop := fnValuesUptoRow.holds Try.pinned (OpenSpec.upto fnValuesSpec)

/-- 'laws.FnLinParts', WHERE WHAT IT READS IS OF BULK AT MOST 1048576: true; the input reads as it did. -/
def fnLinPartsUptoRow : OpenClaim := { program := "ytpobbdibkhledaa", sum := "a96f8f203528ca0d23f264b821249edcf284c262bfb1fb7cd225c7b4f494a05d", func := "loop.example/g00543/laws.FnLinParts", spec := "fnLinParts", unfollowed := true, recurses := true, apart := false, narrowed := true }
def FnLinPartsUptoSaid : Prop := fnLinPartsUptoRow.holds Try.pinned (OpenSpec.upto fnLinPartsSpec)

/-- 'laws.FnLinSums', WHERE WHAT IT READS IS OF BULK AT MOST 1048576: true; the input reads as it did. -/
def fnLinSumsUptoRow : OpenClaim := { program := "ytpobbdibkhledaa", sum := "a96f8f203528ca0d23f264b821249edcf284c262bfb1fb7cd225c7b4f494a05d", func := "loop.example/g00543/laws.FnLinSums", spec := "fnLinSums", unfollowed := true, recurses := true, apart := false, narrowed := true }
def FnLinSumsUptoSaid : Prop := fnLinSumsUptoRow.holds Try.pinned (OpenSpec.upto fnLinSumsSpec)

/-- 'laws.FnExactLinOk', WHERE WHAT IT READS IS OF BULK AT MOST 1048576: true; the input reads as it did. -/
def fnExactLinOkUptoRow : OpenClaim := { program := "ytpobbdibkhledaa", sum := "a96f8f203528ca0d23f264b821249edcf284c262bfb1fb7cd225c7b4f494a05d", func := "loop.example/g00543/laws.FnExactLinOk", spec := "fnExactLinOk", apart := false, narrowed := true }
def FnExactLinOkUptoSaid : Prop := fnExactLinOkUptoRow.holds Try.pinned (OpenSpec.upto fnExactLinOkSpec)

/-- 'laws.FnExactConst', WHERE WHAT IT READS IS OF BULK AT MOST 1048576: true; the input reads as it did. -/
def fnExactConstUptoRow : OpenClaim := { program := "ytpobbdibkhledaa", sum := "a96f8f203528ca0d23f264b821249edcf284c262bfb1fb7cd225c7b4f494a05d", func := "loop.example/g00543/laws.FnExactConst", spec := "fnExactConst", apart := false, narrowed := true }
def FnExactConstUptoSaid : Prop := fnExactConstUptoRow.holds Try.pinned (OpenSpec.upto fnExactConstSpec)

/-- 'laws.FnExactVarOf', WHERE WHAT IT READS IS OF BULK AT MOST 1048576: true; the input reads as it did. -/
def fnExactVarOfUptoRow : OpenClaim := { program := "ytpobbdibkhledaa", sum := "a96f8f203528ca0d23f264b821249edcf284c262bfb1fb7cd225c7b4f494a05d", func := "loop.example/g00543/laws.FnExactVarOf", spec := "fnExactVarOf", apart := false, narrowed := true }
def FnExactVarOfUptoSaid : Prop := fnExactVarOfUptoRow.holds Try.pinned (OpenSpec.upto fnExactVarOfSpec)

/-- 'laws.FnExactLinAdd', WHERE WHAT IT READS IS OF BULK AT MOST 1048576: true; the input reads as it did. -/
def fnExactLinAddUptoRow : OpenClaim := { program := "ytpobbdibkhledaa", sum := "a96f8f203528ca0d23f264b821249edcf284c262bfb1fb7cd225c7b4f494a05d", func := "loop.example/g00543/laws.FnExactLinAdd", spec := "fnExactLinAdd", unfollowed := true, recurses := true, apart := false, narrowed := true }
def FnExactLinAddUptoSaid : Prop := fnExactLinAddUptoRow.holds Try.pinned (OpenSpec.upto fnExactLinAddSpec)

/-- 'laws.FnExactLinSub', WHERE WHAT IT READS IS OF BULK AT MOST 1048576: true; the input reads as it did. -/
def fnExactLinSubUptoRow : OpenClaim := { program := "ytpobbdibkhledaa", sum := "a96f8f203528ca0d23f264b821249edcf284c262bfb1fb7cd225c7b4f494a05d", func := "loop.example/g00543/laws.FnExactLinSub", spec := "fnExactLinSub", unfollowed := true, recurses := true, apart := false, narrowed := true }
def FnExactLinSubUptoSaid : Prop := fnExactLinSubUptoRow.holds Try.pinned (OpenSpec.upto fnExactLinSubSpec)

/-- 'laws.FnExactLinTimes', WHERE WHAT IT READS IS OF BULK AT MOST 1048576: true; the input reads as it did. -/
def fnExactLinTimesUptoRow : OpenClaim := { program := "ytpobbdibkhledaa", sum := "a96f8f203528ca0d23f264b821249edcf284c262bfb1fb7cd225c7b4f494a05d", func := "loop.example/g00543/laws.FnExactLinTimes", spec := "fnExactLinTimes", unfollowed := true, recurses := true, apart := false, narrowed := true }
def FnExactLinTimesUptoSaid : Prop := fnExactLinTimesUptoRow.holds Try.pinned (OpenSpec.upto fnExactLinTimesSpec)

/-- 'laws.FnExactValue', WHERE WHAT IT READS IS OF BULK AT MOST 1048576: true; the input reads as it did. -/
def fnExactValueUptoRow : OpenClaim := { program := "ytpobbdibkhledaa", sum := "a96f8f203528ca0d23f264b821249edcf284c262bfb1fb7cd225c7b4f494a05d", func := "loop.example/g00543/laws.FnExactValue", spec := "fnExactValue", apart := false, narrowed := true }
def FnExactValueUptoSaid : Prop := fnExactValueUptoRow.holds Try.pinned (OpenSpec.upto fnExactValueSpec)

/-- 'laws.FnExactLinNeg', WHERE WHAT IT READS IS OF BULK AT MOST 1048576: true; the input reads as it did. -/
def fnExactLinNegUptoRow : OpenClaim := { program := "ytpobbdibkhledaa", sum := "a96f8f203528ca0d23f264b821249edcf284c262bfb1fb7cd225c7b4f494a05d", func := "loop.example/g00543/laws.FnExactLinNeg", spec := "fnExactLinNeg", unfollowed := true, recurses := true, apart := false, narrowed := true }
def FnExactLinNegUptoSaid : Prop := fnExactLinNegUptoRow.holds Try.pinned (OpenSpec.upto fnExactLinNegSpec)

/-- 'laws.FnExactVarsOf', WHERE WHAT IT READS IS OF BULK AT MOST 1048576: true; the input reads as it did. -/
def fnExactVarsOfUptoRow : OpenClaim := { program := "ytpobbdibkhledaa", sum := "a96f8f203528ca0d23f264b821249edcf284c262bfb1fb7cd225c7b4f494a05d", func := "loop.example/g00543/laws.FnExactVarsOf", spec := "fnExactVarsOf", apart := false, narrowed := true }
def FnExactVarsOfUptoSaid : Prop := fnExactVarsOfUptoRow.holds Try.pinned (OpenSpec.upto fnExactVarsOfSpec)

/-- 'laws.FnExactCoeff', WHERE WHAT IT READS IS OF BULK AT MOST 1048576: true; the input reads as it did. -/
def fnExactCoeffUptoRow : OpenClaim := { program := "ytpobbdibkhledaa", sum := "a96f8f203528ca0d23f264b821249edcf284c262bfb1fb7cd225c7b4f494a05d", func := "loop.example/g00543/laws.FnExactCoeff", spec := "fnExactCoeff", apart := false, narrowed := true }
def FnExactCoeffUptoSaid : Prop := fnExactCoeffUptoRow.holds Try.pinned (OpenSpec.upto fnExactCoeffSpec)

/-- 'laws.FnExactLinSum', WHERE WHAT IT READS IS OF BULK AT MOST 1048576: true; the input reads as it did. -/
def fnExactLinSumUptoRow : OpenClaim := { program := "ytpobbdibkhledaa", sum := "a96f8f203528ca0d23f264b821249edcf284c262bfb1fb7cd225c7b4f494a05d", func := "loop.example/g00543/laws.FnExactLinSum", spec := "fnExactLinSum", unfollowed := true, recurses := true, apart := false, narrowed := true }
def FnExactLinSumUptoSaid : Prop := fnExactLinSumUptoRow.holds Try.pinned (OpenSpec.upto fnExactLinSumSpec)

end Rows
end Go.Proofs.Ytpobbdibkhledaa
