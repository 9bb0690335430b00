/- B19: ExtB Constr AddEq -/
import Derived.Test.YtcenijdaacbgpaaB13
import Derived.Test.YtcenijdaacbgpaaBOps
set_option linter.unusedVariables false
set_option linter.unusedSimpArgs false
/- A system extended by what a function literal adds, with no result but true. -/
namespace Go.Proofs.Ytcenijdaacbgpaa.L
open Go.RowKit Go.Proofs.Ytcenijdaacbgpaa.S
set_option linter.unusedVariables false
set_option linter.unusedSimpArgs false

def RetT (base g : Nat) (gv : Gv) (s : SysC) (b : Bd) (Q : Nat → Prop) (w : World) (e : Ending) (w' : World) : Prop := ∃ Q', e = .returned (.bool true) ∧ Bld base g gv s b Q' w' ∧ Ext Q Q' w w'
def InB (w wr : World) (s : SysC) (ao : Option Addr) (ko : Nat) (ah : Option Addr) (kh : Nat) (ac : Option Addr) (kc : Nat) : Prop :=
  Below w.heap.size w wr ∧ w.heap.size + 2 ≤ wr.heap.size ∧ Box4 wr w.heap.size (.int .i64 s.ins) (.slice ao s.outs.length ko) (.slice ah s.hints.length kh) (.slice ac s.cons.length kc) ∧ Box4 wr (w.heap.size + 1) (.int .i64 0) (.slice none 0 0) (.slice none 0 0) (.slice none 0 0) ∧ Free4 wr (w.heap.size + 1)
theorem InB.keepB {w wr w' : World} {s : SysC} {B : Nat} {ao : Option Addr} {ko : Nat} {ah : Option Addr} {kh : Nat} {ac : Option Addr} {kc : Nat} (h : InB w wr s ao ko ah kh ac kc) (b : Below B wr w') (hB : w.heap.size + 2 ≤ B) : InB w w' s ao ko ah kh ac kc := by
  obtain ⟨h1, h2, h3, h4, h5⟩ := h
  have := b.size
  exact ⟨h1.trans (b.mono (by omega)), by omega, h3.keep b (by omega), h4.keep b (by omega), h5.keep b (by omega)⟩
theorem InB.keep {w wr w' : World} {s : SysC} {ao : Option Addr} {ko : Nat} {ah : Option Addr} {kh : Nat} {ac : Option Addr} {kc : Nat} (h : InB w wr s ao ko ah kh ac kc) (b : Below wr.heap.size wr w') : InB w w' s ao ko ah kh ac kc := h.keepB b h.2.1

end Go.Proofs.Ytcenijdaacbgpaa.L

/- A system extended by what has no result (constrained). -/
namespace Go.Proofs.Ytcenijdaacbgpaa.L
open Go.RowKit Go.Proofs.Ytcenijdaacbgpaa.S
set_option linter.unusedVariables false
/-- The answer: a new system, and whether. -/
def ExtC (ok : Bool) (r : SysC) (w : World) (e : Ending) (w' : World) : Prop :=
  ∃ ui uo uh uc F, e = .returned (.tuple #[.agg #[ui, uo, uh, uc], .bool ok]) ∧ Below w.heap.size w w' ∧ SysF F w' ui uo uh uc r ∧ (∀ k, F k → w.heap.size ≤ k)

end Go.Proofs.Ytcenijdaacbgpaa.L

/- AddEq and AddBool: the program (written by tools/gen/addeq.py). -/
namespace Go.Proofs.Ytcenijdaacbgpaa.L
open Go.RowKit Go.Proofs.Ytcenijdaacbgpaa.S
set_option linter.unusedVariables false
end Go.Proofs.Ytcenijdaacbgpaa.L
