/-
  No cell of these rows narrows 'for every input' (looked for: loops, veiled, ifaces, maps, wideKeys, modest, calm, conditions, laid).
  DERIVED. THE GIVEN ROWS OF THIS SEAT. 7 by the template 'for every input the law returns true; each argument reads behind the call as it read before'; 0 by the template 'total and deterministic' (their statements: YtfkffadpnhfiaaaTotals.lean).
  GIVEN WITH THE SEED: the statements are not yours to turn. If you find one false, say at which input.
  Laid BY PROGRAM, IN A SANDBOX (cutbox-rows.mjs): the forced cells as the released guide's own fill.sh prints them over the translation ca7756cdb31b945f… (all of the seat's roots in one cut). By AI agents, Wed Nov 11 2026. No macro, syntax, notation, axiom, sorry.
-/
import Derived.Test.YtfkffadpnhfiaaaChecked
import GoSem.Claim
import GoSem.ClaimJoined
import GoSem.ClaimMapViews
import Derived.JoinedTies
import Derived.KernelRfl
namespace Go.Proofs.Ytfkffadpnhfiaaa
/- THE CELL 'sum', in the pinned program and in every row, IS THE sha256 OF THE DUMP (.gsa) THAT YtfkffadpnhfiaaaProg.lean LOADS. Nothing in Lean hashes anything: it is a label: what it is worth is what the hold of that sum in a sandbox is worth. -/
noncomputable def Try.pinned : Pinned := { name := "ytfkffadpnhfiaaa", sum := "ca7756cdb31b945f4d623cb58495a599eceb5afc896be8812d9cb26ff4ccc9cd", checked := Try.checked }
namespace Rows
def none {H : Type} : Left H := { results := [], args := [] }

/-- 'laws.FnExactAddMul': WHATEVER THE INPUT: true; the input reads as it did. -/
def fnExactAddMulSpec : ChangeSpec := { name := "fnExactAddMul", fn := fun _ => fun
  | [d1, d2, d3] => { results := [.lit (.bool true)], args := [d1, d2, d3] }
  | _ => none }
def fnExactAddMulRow : OpenClaim := { program := "ytfkffadpnhfiaaa", sum := "ca7756cdb31b945f4d623cb58495a599eceb5afc896be8812d9cb26ff4ccc9cd", func := "loop.example/g00543/laws.FnExactAddMul", spec := "fnExactAddMul", inPlace := ["sync/atomic.AddInt64", "sync/atomic.LoadInt64"], unfollowed := true, recurses := true, apart := false }
def FnExactAddMulSaid : Prop := fnExactAddMulRow.holds Try.pinned (OpenSpec.ofChange fnExactAddMulSpec)

/-- ITS FALSE NEIGHBOUR: 'it returns false'. Refute it at one input. -/
def fnExactAddMulWrong : ChangeSpec := { name := "fnExactAddMul", fn := fun _ => fun
  | [d1, d2, d3] => { results := [.lit (.bool false)], args := [d1, d2, d3] }
  | _ => none }
def FnExactAddMulWrongFalsely : Prop := fnExactAddMulRow.holds Try.pinned (OpenSpec.ofChange fnExactAddMulWrong)

/-- 'laws.FnExactAddBool': WHATEVER THE INPUT: true; the input reads as it did. -/
def fnExactAddBoolSpec : ChangeSpec := { name := "fnExactAddBool", fn := fun _ => fun
  | [d1, d2] => { results := [.lit (.bool true)], args := [d1, d2] }
  | _ => none }
def fnExactAddBoolRow : OpenClaim := { program := "ytfkffadpnhfiaaa", sum := "ca7756cdb31b945f4d623cb58495a599eceb5afc896be8812d9cb26ff4ccc9cd", func := "loop.example/g00543/laws.FnExactAddBool", spec := "fnExactAddBool", inPlace := ["sync/atomic.AddInt64", "sync/atomic.LoadInt64"], unfollowed := true, recurses := true, apart := false }
def FnExactAddBoolSaid : Prop := fnExactAddBoolRow.holds Try.pinned (OpenSpec.ofChange fnExactAddBoolSpec)

/-- ITS FALSE NEIGHBOUR: 'it returns false'. Refute it at one input. -/
def fnExactAddBoolWrong : ChangeSpec := { name := "fnExactAddBool", fn := fun _ => fun
  | [d1, d2] => { results := [.lit (.bool false)], args := [d1, d2] }
  | _ => none }
def FnExactAddBoolWrongFalsely : Prop := fnExactAddBoolRow.holds Try.pinned (OpenSpec.ofChange fnExactAddBoolWrong)

/-- 'laws.FnExactAddEq': WHATEVER THE INPUT: true; the input reads as it did. -/
def fnExactAddEqSpec : ChangeSpec := { name := "fnExactAddEq", fn := fun _ => fun
  | [d1, d2, d3] => { results := [.lit (.bool true)], args := [d1, d2, d3] }
  | _ => none }
def fnExactAddEqRow : OpenClaim := { program := "ytfkffadpnhfiaaa", sum := "ca7756cdb31b945f4d623cb58495a599eceb5afc896be8812d9cb26ff4ccc9cd", func := "loop.example/g00543/laws.FnExactAddEq", spec := "fnExactAddEq", inPlace := ["sync/atomic.AddInt64", "sync/atomic.LoadInt64"], unfollowed := true, recurses := true, apart := false }
def FnExactAddEqSaid : Prop := fnExactAddEqRow.holds Try.pinned (OpenSpec.ofChange fnExactAddEqSpec)

/-- ITS FALSE NEIGHBOUR: 'it returns false'. Refute it at one input. -/
def fnExactAddEqWrong : ChangeSpec := { name := "fnExactAddEq", fn := fun _ => fun
  | [d1, d2, d3] => { results := [.lit (.bool false)], args := [d1, d2, d3] }
  | _ => none }
def FnExactAddEqWrongFalsely : Prop := fnExactAddEqRow.holds Try.pinned (OpenSpec.ofChange fnExactAddEqWrong)

/-- 'laws.FnExactAddBits': WHATEVER THE INPUT: true; the input reads as it did. -/
def fnExactAddBitsSpec : ChangeSpec := { name := "fnExactAddBits", fn := fun _ => fun
  | [d1, d2, d3] => { results := [.lit (.bool true)], args := [d1, d2, d3] }
  | _ => none }
def fnExactAddBitsRow : OpenClaim := { program := "ytfkffadpnhfiaaa", sum := "ca7756cdb31b945f4d623cb58495a599eceb5afc896be8812d9cb26ff4ccc9cd", func := "loop.example/g00543/laws.FnExactAddBits", spec := "fnExactAddBits", inPlace := ["sync/atomic.AddInt64", "sync/atomic.LoadInt64"], unfollowed := true, recurses := true, apart := false }
def FnExactAddBitsSaid : Prop := fnExactAddBitsRow.holds Try.pinned (OpenSpec.ofChange fnExactAddBitsSpec)

/-- ITS FALSE NEIGHBOUR: 'it returns false'. Refute it at one input. -/
def fnExactAddBitsWrong : ChangeSpec := { name := "fnExactAddBits", fn := fun _ => fun
  | [d1, d2, d3] => { results := [.lit (.bool false)], args := [d1, d2, d3] }
  | _ => none }
def FnExactAddBitsWrongFalsely : Prop := fnExactAddBitsRow.holds Try.pinned (OpenSpec.ofChange fnExactAddBitsWrong)

/-- 'laws.FnExactAddZero': WHATEVER THE INPUT: true; the input reads as it did. -/
def fnExactAddZeroSpec : ChangeSpec := { name := "fnExactAddZero", fn := fun _ => fun
  | [d1, d2] => { results := [.lit (.bool true)], args := [d1, d2] }
  | _ => none }
def fnExactAddZeroRow : OpenClaim := { program := "ytfkffadpnhfiaaa", sum := "ca7756cdb31b945f4d623cb58495a599eceb5afc896be8812d9cb26ff4ccc9cd", func := "loop.example/g00543/laws.FnExactAddZero", spec := "fnExactAddZero", inPlace := ["sync/atomic.AddInt64", "sync/atomic.LoadInt64"], unfollowed := true, recurses := true, apart := false }
def FnExactAddZeroSaid : Prop := fnExactAddZeroRow.holds Try.pinned (OpenSpec.ofChange fnExactAddZeroSpec)

/-- ITS FALSE NEIGHBOUR: 'it returns false'. Refute it at one input. -/
def fnExactAddZeroWrong : ChangeSpec := { name := "fnExactAddZero", fn := fun _ => fun
  | [d1, d2] => { results := [.lit (.bool false)], args := [d1, d2] }
  | _ => none }
def FnExactAddZeroWrongFalsely : Prop := fnExactAddZeroRow.holds Try.pinned (OpenSpec.ofChange fnExactAddZeroWrong)

/-- 'laws.FnExactAddMux': WHATEVER THE INPUT: true; the input reads as it did. -/
def fnExactAddMuxSpec : ChangeSpec := { name := "fnExactAddMux", fn := fun _ => fun
  | [d1, d2, d3, d4] => { results := [.lit (.bool true)], args := [d1, d2, d3, d4] }
  | _ => none }
def fnExactAddMuxRow : OpenClaim := { program := "ytfkffadpnhfiaaa", sum := "ca7756cdb31b945f4d623cb58495a599eceb5afc896be8812d9cb26ff4ccc9cd", func := "loop.example/g00543/laws.FnExactAddMux", spec := "fnExactAddMux", inPlace := ["sync/atomic.AddInt64", "sync/atomic.LoadInt64"], unfollowed := true, recurses := true, apart := false }
def FnExactAddMuxSaid : Prop := fnExactAddMuxRow.holds Try.pinned (OpenSpec.ofChange fnExactAddMuxSpec)

/-- ITS FALSE NEIGHBOUR: 'it returns false'. Refute it at one input. -/
def fnExactAddMuxWrong : ChangeSpec := { name := "fnExactAddMux", fn := fun _ => fun
  | [d1, d2, d3, d4] => { results := [.lit (.bool false)], args := [d1, d2, d3, d4] }
  | _ => none }
def FnExactAddMuxWrongFalsely : Prop := fnExactAddMuxRow.holds Try.pinned (OpenSpec.ofChange fnExactAddMuxWrong)

/-- 'laws.FnExactAddXor': WHATEVER THE INPUT: true; the input reads as it did. -/
def fnExactAddXorSpec : ChangeSpec := { name := "fnExactAddXor", fn := fun _ => fun
  | [d1, d2, d3] => { results := [.lit (.bool true)], args := [d1, d2, d3] }
  | _ => none }
def fnExactAddXorRow : OpenClaim := { program := "ytfkffadpnhfiaaa", sum := "ca7756cdb31b945f4d623cb58495a599eceb5afc896be8812d9cb26ff4ccc9cd", func := "loop.example/g00543/laws.FnExactAddXor", spec := "fnExactAddXor", inPlace := ["sync/atomic.AddInt64", "sync/atomic.LoadInt64"], unfollowed := true, recurses := true, apart := false }
def FnExactAddXorSaid : Prop := fnExactAddXorRow.holds Try.pinned (OpenSpec.ofChange fnExactAddXorSpec)

/-- ITS FALSE NEIGHBOUR: 'it returns false'. Refute it at one input. -/
def fnExactAddXorWrong : ChangeSpec := { name := "fnExactAddXor", fn := fun _ => fun
  | [d1, d2, d3] => { results := [.lit (.bool false)], args := [d1, d2, d3] }
  | _ => none }
def FnExactAddXorWrongFalsely : Prop := fnExactAddXorRow.holds Try.pinned (OpenSpec.ofChange fnExactAddXorWrong)

/- THE SECOND FORM. 'bulk': how many values and letters a reading holds, each counted each time it is reached (what is shared counts as often as it is met; a slice's spare places count too). A statement '..UptoSaid' is the law's where the arguments, and the package variables that the reading takes, are together of bulk at most 1048576: NARROWER than '..Said'. Prove '..Said' where nothing that the law and all that it calls make is longer than what came in: it says more and counts as full. Else prove '..UptoSaid'. A law counts once. -/
mutual
def uptoBulk {H : Type} : DataW H → Nat
  | .lit (.string bytes) => bytes.length + 1
  | .lit _ => 1
  | .nil => 1
  | .ptr d => uptoBulk d + 1
  | .slice elems spare => uptoBulkAll elems + uptoBulkAll spare + 1
  | .agg parts => uptoBulkAll parts + 1
  | .iface _ d => uptoBulk d + 1
  | .map entries => uptoBulkEntries entries + 1
  | .held _ => 1
def uptoBulkAll {H : Type} : List (DataW H) → Nat
  | [] => 0
  | d :: r => uptoBulk d + uptoBulkAll r
def uptoBulkEntries {H : Type} : List (Lit × DataW H) → Nat
  | [] => 0
  | x :: r => uptoBulkEntry x + uptoBulkEntries r
def uptoBulkEntry {H : Type} : Lit × DataW H → Nat
  | (.string bytes, d) => bytes.length + uptoBulk d + 1
  | (_, d) => uptoBulk d + 1
 end
def uptoSmall : (H : Type) → List (DataW H) → Bool := fun _ ds => decide (uptoBulkAll ds ≤ 1048576)
def OpenSpec.upto (s : _root_.Go.ChangeSpec) : _root_.Go.OpenSpec := { _root_.Go.OpenSpec.ofChange s with cond := some uptoSmall }

/-- 'laws.FnExactAddMul', WHERE WHAT IT READS IS OF BULK AT MOST 1048576: true; the input reads as it did. -/
def fnExactAddMulUptoRow : OpenClaim := { program := "ytfkffadpnhfiaaa", sum := "ca7756cdb31b945f4d623cb58495a599eceb5afc896be8812d9cb26ff4ccc9cd", func := "loop.example/g00543/laws.FnExactAddMul", spec := "fnExactAddMul", inPlace := ["sync/atomic.AddInt64", "sync/atomic.LoadInt64"], unfollowed := true, recurses := true, apart := false, narrowed := true }
def FnExactAddMulUptoSaid : Prop := fnExactAddMulUptoRow.holds Try.pinned (OpenSpec.upto fnExactAddMulSpec)

/-- 'laws.FnExactAddBool', WHERE WHAT IT READS IS OF BULK AT MOST 1048576: true; the input reads as it did. -/
def fnExactAddBoolUptoRow : OpenClaim := { program := "ytfkffadpnhfiaaa", sum := "ca7756cdb31b945f4d623cb58495a599eceb5afc896be8812d9cb26ff4ccc9cd", func := "loop.example/g00543/laws.FnExactAddBool", spec := "fnExactAddBool", inPlace := ["sync/atomic.AddInt64", "sync/atomic.LoadInt64"], unfollowed := true, recurses := true, apart := false, narrowed := true }
def FnExactAddBoolUptoSaid : Prop := fnExactAddBoolUptoRow.holds Try.pinned (OpenSpec.upto fnExactAddBoolSpec)

/-- 'laws.FnExactAddEq', WHERE WHAT IT READS IS OF BULK AT MOST 1048576: true; the input reads as it did. -/
def fnExactAddEqUptoRow : OpenClaim := { program := "ytfkffadpnhfiaaa", sum := "ca7756cdb31b945f4d623cb58495a599eceb5afc896be8812d9cb26ff4ccc9cd", func := "loop.example/g00543/laws.FnExactAddEq", spec := "fnExactAddEq", inPlace := ["sync/atomic.AddInt64", "sync/atomic.LoadInt64"], unfollowed := true, recurses := true, apart := false, narrowed := true }
def FnExactAddEqUptoSaid : Prop := fnExactAddEqUptoRow.holds Try.pinned (OpenSpec.upto fnExactAddEqSpec)

/-- 'laws.FnExactAddBits', WHERE WHAT IT READS IS OF BULK AT MOST 1048576: true; the input reads as it did. -/
def fnExactAddBitsUptoRow : OpenClaim := { program := "ytfkffadpnhfiaaa", sum := "ca7756cdb31b945f4d623cb58495a599eceb5afc896be8812d9cb26ff4ccc9cd", func := "loop.example/g00543/laws.FnExactAddBits", spec := "fnExactAddBits", inPlace := ["sync/atomic.AddInt64", "sync/atomic.LoadInt64"], unfollowed := true, recurses := true, apart := false, narrowed := true }
def FnExactAddBitsUptoSaid : Prop := fnExactAddBitsUptoRow.holds Try.pinned (OpenSpec.upto fnExactAddBitsSpec)

/-- 'laws.FnExactAddZero', WHERE WHAT IT READS IS OF BULK AT MOST 1048576: true; the input reads as it did. -/
def fnExactAddZeroUptoRow : OpenClaim := { program := "ytfkffadpnhfiaaa", sum := "ca7756cdb31b945f4d623cb58495a599eceb5afc896be8812d9cb26ff4ccc9cd", func := "loop.example/g00543/laws.FnExactAddZero", spec := "fnExactAddZero", inPlace := ["sync/atomic.AddInt64", "sync/atomic.LoadInt64"], unfollowed := true, recurses := true, apart := false, narrowed := true }
def FnExactAddZeroUptoSaid : Prop := fnExactAddZeroUptoRow.holds Try.pinned (OpenSpec.upto fnExactAddZeroSpec)

/-- 'laws.FnExactAddMux', WHERE WHAT IT READS IS OF BULK AT MOST 1048576: true; the input reads as it did. -/
def fnExactAddMuxUptoRow : OpenClaim := { program := "ytfkffadpnhfiaaa", sum := "ca7756cdb31b945f4d623cb58495a599eceb5afc896be8812d9cb26ff4ccc9cd", func := "loop.example/g00543/laws.FnExactAddMux", spec := "fnExactAddMux", inPlace := ["sync/atomic.AddInt64", "sync/atomic.LoadInt64"], unfollowed := true, recurses := true, apart := false, narrowed := true }
def FnExactAddMuxUptoSaid : Prop := fnExactAddMuxUptoRow.holds Try.pinned (OpenSpec.upto fnExactAddMuxSpec)

/-- 'laws.FnExactAddXor', WHERE WHAT IT READS IS OF BULK AT MOST 1048576: true; the input reads as it did. -/
def fnExactAddXorUptoRow : OpenClaim := { program := "ytfkffadpnhfiaaa", sum := "ca7756cdb31b945f4d623cb58495a599eceb5afc896be8812d9cb26ff4ccc9cd", func := "loop.example/g00543/laws.FnExactAddXor", spec := "fnExactAddXor", inPlace := ["sync/atomic.AddInt64", "sync/atomic.LoadInt64"], unfollowed := true, recurses := true, apart := false, narrowed := true }
def FnExactAddXorUptoSaid : Prop := fnExactAddXorUptoRow.holds Try.pinned (OpenSpec.upto fnExactAddXorSpec)

end Rows
end Go.Proofs.Ytfkffadpnhfiaaa
