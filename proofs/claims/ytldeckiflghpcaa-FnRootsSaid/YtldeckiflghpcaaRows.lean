/-
  No cell of these rows narrows 'for every input' (looked for: loops, veiled, ifaces, maps, wideKeys, modest, calm, conditions, laid).
  DERIVED. THE GIVEN ROWS OF THIS SEAT. 7 by the template 'for every input the law returns true; each argument reads behind the call as it read before'; 0 by the template 'total and deterministic' (their statements: YtldeckiflghpcaaTotals.lean).
  GIVEN WITH THE SEED: the statements are not yours to turn. If you find one false, say at which input.
  Laid BY PROGRAM, IN A SANDBOX (cutbox-rows.mjs): the forced cells as the released guide's own fill.sh prints them over the translation 1df09ed2c0dc6d6b… (all of the seat's roots in one cut). By AI agents, Wed Nov 11 2026. No macro, syntax, notation, axiom, sorry.
-/
import Derived.Test.YtldeckiflghpcaaChecked
import GoSem.Claim
import GoSem.ClaimJoined
import GoSem.ClaimMapViews
import Derived.JoinedTies
import Derived.KernelRfl
namespace Go.Proofs.Ytldeckiflghpcaa
/- THE CELL 'sum', in the pinned program and in every row, IS THE sha256 OF THE DUMP (.gsa) THAT YtldeckiflghpcaaProg.lean LOADS. Nothing in Lean hashes anything: it is a label: what it is worth is what the hold of that sum in a sandbox is worth. -/
noncomputable def Try.pinned : Pinned := { name := "ytldeckiflghpcaa", sum := "1df09ed2c0dc6d6bcf37eba7a5611bc0aef2decdcf2698f097150fdc1943cfc2", checked := Try.checked }
namespace Rows
def none {H : Type} : Left H := { results := [], args := [] }

/-- 'laws.FnExactRot8': WHATEVER THE INPUT: true; the input reads as it did. -/
def fnExactRot8Spec : ChangeSpec := { name := "fnExactRot8", fn := fun _ => fun
  | [d1, d2] => { results := [.lit (.bool true)], args := [d1, d2] }
  | _ => none }
def fnExactRot8Row : OpenClaim := { program := "ytldeckiflghpcaa", sum := "1df09ed2c0dc6d6bcf37eba7a5611bc0aef2decdcf2698f097150fdc1943cfc2", func := "loop.example/g00543/laws.FnExactRot8", spec := "fnExactRot8", apart := false }
def FnExactRot8Said : Prop := fnExactRot8Row.holds Try.pinned (OpenSpec.ofChange fnExactRot8Spec)

/-- ITS FALSE NEIGHBOUR: 'it returns false'. Refute it at one input. -/
def fnExactRot8Wrong : ChangeSpec := { name := "fnExactRot8", fn := fun _ => fun
  | [d1, d2] => { results := [.lit (.bool false)], args := [d1, d2] }
  | _ => none }
def FnExactRot8WrongFalsely : Prop := fnExactRot8Row.holds Try.pinned (OpenSpec.ofChange fnExactRot8Wrong)

/-- 'laws.FnExactMixStep': WHATEVER THE INPUT: true; the input reads as it did. -/
def fnExactMixStepSpec : ChangeSpec := { name := "fnExactMixStep", fn := fun _ => fun
  | [d1, d2] => { results := [.lit (.bool true)], args := [d1, d2] }
  | _ => none }
def fnExactMixStepRow : OpenClaim := { program := "ytldeckiflghpcaa", sum := "1df09ed2c0dc6d6bcf37eba7a5611bc0aef2decdcf2698f097150fdc1943cfc2", func := "loop.example/g00543/laws.FnExactMixStep", spec := "fnExactMixStep", unfollowed := true, recurses := true, apart := false }
def FnExactMixStepSaid : Prop := fnExactMixStepRow.holds Try.pinned (OpenSpec.ofChange fnExactMixStepSpec)

/-- ITS FALSE NEIGHBOUR: 'it returns false'. Refute it at one input. -/
def fnExactMixStepWrong : ChangeSpec := { name := "fnExactMixStep", fn := fun _ => fun
  | [d1, d2] => { results := [.lit (.bool false)], args := [d1, d2] }
  | _ => none }
def FnExactMixStepWrongFalsely : Prop := fnExactMixStepRow.holds Try.pinned (OpenSpec.ofChange fnExactMixStepWrong)

/-- 'laws.FnExactMix': WHATEVER THE INPUT: true; the input reads as it did. -/
def fnExactMixSpec : ChangeSpec := { name := "fnExactMix", fn := fun _ => fun
  | [d] => { results := [.lit (.bool true)], args := [d] }
  | _ => none }
def fnExactMixRow : OpenClaim := { program := "ytldeckiflghpcaa", sum := "1df09ed2c0dc6d6bcf37eba7a5611bc0aef2decdcf2698f097150fdc1943cfc2", func := "loop.example/g00543/laws.FnExactMix", spec := "fnExactMix", unfollowed := true, recurses := true, apart := false }
def FnExactMixSaid : Prop := fnExactMixRow.holds Try.pinned (OpenSpec.ofChange fnExactMixSpec)

/-- ITS FALSE NEIGHBOUR: 'it returns false'. Refute it at one input. -/
def fnExactMixWrong : ChangeSpec := { name := "fnExactMix", fn := fun _ => fun
  | [d] => { results := [.lit (.bool false)], args := [d] }
  | _ => none }
def FnExactMixWrongFalsely : Prop := fnExactMixRow.holds Try.pinned (OpenSpec.ofChange fnExactMixWrong)

/-- 'laws.FnExactRoot': WHATEVER THE INPUT: true; the input reads as it did. -/
def fnExactRootSpec : ChangeSpec := { name := "fnExactRoot", fn := fun _ => fun
  | [d1, d2, d3] => { results := [.lit (.bool true)], args := [d1, d2, d3] }
  | _ => none }
def fnExactRootRow : OpenClaim := { program := "ytldeckiflghpcaa", sum := "1df09ed2c0dc6d6bcf37eba7a5611bc0aef2decdcf2698f097150fdc1943cfc2", func := "loop.example/g00543/laws.FnExactRoot", spec := "fnExactRoot", unfollowed := true, recurses := true, apart := false }
def FnExactRootSaid : Prop := fnExactRootRow.holds Try.pinned (OpenSpec.ofChange fnExactRootSpec)

/-- ITS FALSE NEIGHBOUR: 'it returns false'. Refute it at one input. -/
def fnExactRootWrong : ChangeSpec := { name := "fnExactRoot", fn := fun _ => fun
  | [d1, d2, d3] => { results := [.lit (.bool false)], args := [d1, d2, d3] }
  | _ => none }
def FnExactRootWrongFalsely : Prop := fnExactRootRow.holds Try.pinned (OpenSpec.ofChange fnExactRootWrong)

/-- 'laws.FnRots': WHATEVER THE INPUT: true; the input reads as it did. -/
def fnRotsSpec : ChangeSpec := { name := "fnRots", fn := fun _ => fun
  | [d] => { results := [.lit (.bool true)], args := [d] }
  | _ => none }
def fnRotsRow : OpenClaim := { program := "ytldeckiflghpcaa", sum := "1df09ed2c0dc6d6bcf37eba7a5611bc0aef2decdcf2698f097150fdc1943cfc2", func := "loop.example/g00543/laws.FnRots", spec := "fnRots", apart := false }
def FnRotsSaid : Prop := fnRotsRow.holds Try.pinned (OpenSpec.ofChange fnRotsSpec)

/-- ITS FALSE NEIGHBOUR: 'it returns false'. Refute it at one input. -/
def fnRotsWrong : ChangeSpec := { name := "fnRots", fn := fun _ => fun
  | [d] => { results := [.lit (.bool false)], args := [d] }
  | _ => none }
def FnRotsWrongFalsely : Prop := fnRotsRow.holds Try.pinned (OpenSpec.ofChange fnRotsWrong)

/-- 'laws.FnMixes': WHATEVER THE INPUT: true; the input reads as it did. -/
def fnMixesSpec : ChangeSpec := { name := "fnMixes", fn := fun _ => fun
  | [d] => { results := [.lit (.bool true)], args := [d] }
  | _ => none }
def fnMixesRow : OpenClaim := { program := "ytldeckiflghpcaa", sum := "1df09ed2c0dc6d6bcf37eba7a5611bc0aef2decdcf2698f097150fdc1943cfc2", func := "loop.example/g00543/laws.FnMixes", spec := "fnMixes", unfollowed := true, recurses := true, apart := false }
def FnMixesSaid : Prop := fnMixesRow.holds Try.pinned (OpenSpec.ofChange fnMixesSpec)

/-- ITS FALSE NEIGHBOUR: 'it returns false'. Refute it at one input. -/
def fnMixesWrong : ChangeSpec := { name := "fnMixes", fn := fun _ => fun
  | [d] => { results := [.lit (.bool false)], args := [d] }
  | _ => none }
def FnMixesWrongFalsely : Prop := fnMixesRow.holds Try.pinned (OpenSpec.ofChange fnMixesWrong)

/-- 'laws.FnRoots': WHATEVER THE INPUT: true; the input reads as it did. -/
def fnRootsSpec : ChangeSpec := { name := "fnRoots", fn := fun _ => fun
  | [d] => { results := [.lit (.bool true)], args := [d] }
  | _ => none }
def fnRootsRow : OpenClaim := { program := "ytldeckiflghpcaa", sum := "1df09ed2c0dc6d6bcf37eba7a5611bc0aef2decdcf2698f097150fdc1943cfc2", func := "loop.example/g00543/laws.FnRoots", spec := "fnRoots", unfollowed := true, recurses := true, apart := false }
def FnRootsSaid : Prop := fnRootsRow.holds Try.pinned (OpenSpec.ofChange fnRootsSpec)

/-- ITS FALSE NEIGHBOUR: 'it returns false'. Refute it at one input. -/
def fnRootsWrong : ChangeSpec := { name := "fnRoots", fn := fun _ => fun
  | [d] => { results := [.lit (.bool false)], args := [d] }
  | _ => none }
def FnRootsWrongFalsely : Prop := fnRootsRow.holds Try.pinned (OpenSpec.ofChange fnRootsWrong)

/- THE SECOND FORM. 'bulk': how many values and letters a reading holds, each counted each time it is reached (what is shared counts as often as it is met; a slice's spare places count too). A statement '..UptoSaid' is the law's where the arguments, and the package variables that the reading takes, are together of bulk at most 1048576: NARROWER than '..Said'. Prove '..Said' where nothing that the law and all that it calls make is longer than what came in: it says more and counts as full. Else prove '..UptoSaid'. A law counts once. -/
mutual
def uptoBulk {H : Type} : DataW H → Nat
  | .lit (.string bytes) => bytes.length + 1
  | .lit _ => 1
  | .nil => 1
  | .ptr d => uptoBulk d + 1
  | .slice elems spare => uptoBulkAll elems + uptoBulkAll spare + 1
  | .agg parts => uptoBulkAll parts + 1
  | .iface _ d => uptoBulk d + 1
  | .map entries => uptoBulkEntries entries + 1
  | .held _ => 1
def uptoBulkAll {H : Type} : List (DataW H) → Nat
  | [] => 0
  | d :: r => uptoBulk d + uptoBulkAll r
def uptoBulkEntries {H : Type} : List (Lit × DataW H) → Nat
  | [] => 0
  | x :: r => uptoBulkEntry x + uptoBulkEntries r
def uptoBulkEntry {H : Type} : Lit × DataW H → Nat
  | (.string bytes, d) => bytes.length + uptoBulk d + 1
  | (_, d) => uptoBulk d + 1
 end
def uptoSmall : (H : Type) → List (DataW H) → Bool := fun _ ds => decide (uptoBulkAll ds ≤ 1048576)
def OpenSpec.upto (s : _root_.Go.ChangeSpec) : _root_.Go.OpenSpec := { _root_.Go.OpenSpec.ofChange s with cond := some uptoSmall }

/-- 'laws.FnExactRot8', WHERE WHAT IT READS IS OF BULK AT MOST 1048576: true; the input reads as it did. -/
def fnExactRot8UptoRow : OpenClaim := { program := "ytldeckiflghpcaa", sum := "1df09ed2c0dc6d6bcf37eba7a5611bc0aef2decdcf2698f097150fdc1943cfc2", func := "loop.example/g00543/laws.FnExactRot8", spec := "fnExactRot8", apart := false, narrowed := true }
def FnExactRot8UptoSaid : Prop := fnExactRot8UptoRow.holds Try.pinned (OpenSpec.upto fnExactRot8Spec)

/-- 'laws.FnExactMixStep', WHERE WHAT IT READS IS OF BULK AT MOST 1048576: true; the input reads as it did. -/
def fnExactMixStepUptoRow : OpenClaim := { program := "ytldeckiflghpcaa", sum := "1df09ed2c0dc6d6bcf37eba7a5611bc0aef2decdcf2698f097150fdc1943cfc2", func := "loop.example/g00543/laws.FnExactMixStep", spec := "fnExactMixStep", unfollowed := true, recurses := true, apart := false, narrowed := true }
def FnExactMixStepUptoSaid : Prop := fnExactMixStepUptoRow.holds Try.pinned (OpenSpec.upto fnExactMixStepSpec)

/-- 'laws.FnExactMix', WHERE WHAT IT READS IS OF BULK AT MOST 1048576: true; the input reads as it did. -/
def fnExactMixUptoRow : OpenClaim := { program := "ytldeckiflghpcaa", sum := "1df09ed2c0dc6d6bcf37eba7a5611bc0aef2decdcf2698f097150fdc1943cfc2", func := "loop.example/g00543/laws.FnExactMix", spec := "fnExactMix", unfollowed := true, recurses := true, apart := false, narrowed := true }
def FnExactMixUptoSaid : Prop := fnExactMixUptoRow.holds Try.pinned (OpenSpec.upto fnExactMixSpec)

/-- 'laws.FnExactRoot', WHERE WHAT IT READS IS OF BULK AT MOST 1048576: true; the input reads as it did. -/
def fnExactRootUptoRow : OpenClaim := { program := "ytldeckiflghpcaa", sum := "1df09ed2c0dc6d6bcf37eba7a5611bc0aef2decdcf2698f097150fdc1943cfc2", func := "loop.example/g00543/laws.FnExactRoot", spec := "fnExactRoot", unfollowed := true, recurses := true, apart := false, narrowed := true }
def FnExactRootUptoSaid : Prop := fnExactRootUptoRow.holds Try.pinned (OpenSpec.upto fnExactRootSpec)

/-- 'laws.FnRots', WHERE WHAT IT READS IS OF BULK AT MOST 1048576: true; the input reads as it did. -/
def fnRotsUptoRow : OpenClaim := { program := "ytldeckiflghpcaa", sum := "1df09ed2c0dc6d6bcf37eba7a5611bc0aef2decdcf2698f097150fdc1943cfc2", func := "loop.example/g00543/laws.FnRots", spec := "fnRots", apart := false, narrowed := true }
def FnRotsUptoSaid : Prop := fnRotsUptoRow.holds Try.pinned (OpenSpec.upto fnRotsSpec)

/-- 'laws.FnMixes', WHERE WHAT IT READS IS OF BULK AT MOST 1048576: true; the input reads as it did. -/
def fnMixesUptoRow : OpenClaim := { program := "ytldeckiflghpcaa", sum := "1df09ed2c0dc6d6bcf37eba7a5611bc0aef2decdcf2698f097150fdc1943cfc2", func := "loop.example/g00543/laws.FnMixes", spec := "fnMixes", unfollowed := true, recurses := true, apart := false, narrowed := true }
def FnMixesUptoSaid : Prop := fnMixesUptoRow.holds Try.pinned (OpenSpec.upto fnMixesSpec)

/-- 'laws.FnRoots', WHERE WHAT IT READS IS OF BULK AT MOST 1048576: true; the input reads as it did. -/
def fnRootsUptoRow : OpenClaim := { program := "ytldeckiflghpcaa", sum := "1df09ed2c0dc6d6bcf37eba7a5611bc0aef2decdcf2698f097150fdc1943cfc2", func := "loop.example/g00543/laws.FnRoots", spec := "fnRoots", unfollowed := true, recurses := true, apart := false, narrowed := true }
def FnRootsUptoSaid : Prop := fnRootsUptoRow.holds Try.pinned (OpenSpec.upto fnRootsSpec)

end Rows
end Go.Proofs.Ytldeckiflghpcaa
