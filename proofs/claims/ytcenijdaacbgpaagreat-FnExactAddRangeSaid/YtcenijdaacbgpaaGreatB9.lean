/- B9: Holds Check -/
import Derived.Test.YtcenijdaacbgpaaGreatB8
import Derived.Test.YtcenijdaacbgpaaGreatB8
set_option linter.unusedVariables false
set_option linter.unusedSimpArgs false
/- Whether constraints and systems hold: the program's functions and their models. -/
namespace Go.Proofs.YtcenijdaacbgpaaGreat.L
open Go.RowKit Go.Proofs.YtcenijdaacbgpaaGreat.S
set_option linter.unusedVariables false
end Go.Proofs.YtcenijdaacbgpaaGreat.L

/- Checks of systems: the program's functions and their models; counts of variables. -/
namespace Go.Proofs.YtcenijdaacbgpaaGreat.L
open Go.RowKit Go.Proofs.YtcenijdaacbgpaaGreat.S
set_option linter.unusedVariables false
set_option linter.unusedSimpArgs false

def allB (xs : List Int) (cs : List ConC) : Bool := cs.all (holdsB xs)
def checkB (s : SysC) (xs : List Int) : Bool := sysOk s && (decide ((xs.length : Int) = varsN s) && (isAsg xs && allB xs s.cons))
def varCount (s : SysC) : Int := if sysOk s = true then varsN s else -1

theorem sysOk_specb (o l h vi vo vh vc) (s : SysC) (w : World) (t : SysR o l h w vi vo vh vc s) (hw : h ≤ w.heap.size) (nh : s.hints.length ≤ 1048576) (no : s.outs.length ≤ 1048576) (nc : s.cons.length ≤ 1048576) (b : Bool) (hk : sysOk s = b) :
  Calls Tryz.prog 53 #[.agg #[vi, vo, vh, vc]] w fun e w' => e = .returned (.bool b) ∧ Below w.heap.size w w' := by
 have := sysOk_spec o l h vi vo vh vc s w t hw nh no nc
 rw [hk] at this; exact this
theorem sysOk_implb (o l h vi vo vh vc) (s : SysC) (w : World) (t : SysR o l h w vi vo vh vc s) (hw : h ≤ w.heap.size) (nh : s.hints.length ≤ 1048576) (no : s.outs.length ≤ 1048576) (nc : s.cons.length ≤ 1048576) (b : Bool) (hk : sysOk s = b) :
  Calls Tryz.prog 62 #[.agg #[vi, vo, vh, vc]] w fun e w' => e = .returned (.bool b) ∧ Below w.heap.size w w' := by
 have := sysOk_impl o l h vi vo vh vc s w t hw nh no nc
 rw [hk] at this; exact this
theorem sysOk_cons_in {s : SysC} (h : sysOk s = true) : ∀ c ∈ s.cons, conW (varsN s) c = true := by
 have h2 : consB (varsN s) s.cons = true := by
  cases hc : consB (varsN s) s.cons
  ·rw [sysOk_cons hc] at h; cases h
  ·rfl
 exact List.all_eq_true.1 h2
theorem sysOk_outs_in {s : SysC} (h : sysOk s = true) : ∀ c ∈ s.outs, linW (varsN s) c = true := by
 have h2 : outsB (varsN s) s.outs = true := by
  cases hc : outsB (varsN s) s.outs
  ·rw [sysOk_outs hc] at h; cases h
  ·rfl
 exact List.all_eq_true.1 h2

theorem checkB_1 {s : SysC} {xs : List Int} (h : sysOk s = false) : checkB s xs = false := by simp [checkB, h]
theorem checkB_2 {s : SysC} {xs : List Int} (h : ¬ (xs.length : Int) = varsN s) : checkB s xs = false := by simp [checkB, h]
theorem checkB_3 {s : SysC} {xs : List Int} (h : isAsg xs = false) : checkB s xs = false := by simp [checkB, h]
theorem checkB_4 {s : SysC} {xs : List Int} (h1 : sysOk s = true) (h2 : (xs.length : Int) = varsN s) (h3 : isAsg xs = true) : checkB s xs = allB xs s.cons := by simp [checkB, h1, h2, h3]
theorem cons_in {s : SysC} {xs : List Int} (h1 : sysOk s = true) (h2 : (xs.length : Int) = varsN s) : ∀ c ∈ s.cons, conW xs.length c = true := by rw [h2]; exact sysOk_cons_in h1
theorem outs_in {s : SysC} {xs : List Int} (h1 : sysOk s = true) (h2 : (xs.length : Int) = varsN s) : ∀ c ∈ s.outs, linW xs.length c = true := by rw [h2]; exact sysOk_outs_in h1

end Go.Proofs.YtcenijdaacbgpaaGreat.L
