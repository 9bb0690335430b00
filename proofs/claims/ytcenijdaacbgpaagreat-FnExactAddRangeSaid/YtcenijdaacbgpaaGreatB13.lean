/- B13: ExtL AddMul -/
import Derived.Test.YtcenijdaacbgpaaGreatB12
import Derived.Test.YtcenijdaacbgpaaGreatB11
import Derived.Conc.MuLone
set_option linter.unusedVariables false
set_option linter.unusedSimpArgs false
/- A system extended by what a function literal adds, with terms as its result. -/
namespace Go.Proofs.YtcenijdaacbgpaaGreat.L
open Go.RowKit Go.Proofs.YtcenijdaacbgpaaGreat.S
set_option linter.unusedVariables false
set_option linter.unusedSimpArgs false

theorem SameF.drew {F : Nat → Prop} {w w' : World} (h : SameF F w w') : SameF F w w'.drew := fun k hk => h k hk
theorem sameF_sets5d {F : Nat → Prop} {b b' : Nat} (w : World) (u0 u1 u2 u3 u : Value) (hb : ¬ F b) (hb' : ¬ F b') : SameF F w (((((w.setCell ⟨b, 0, none⟩ u0).setCell ⟨b, 1, none⟩ u1).setCell ⟨b, 2, none⟩ u2).setCell ⟨b, 3, none⟩ u3).setCell ⟨b', 0, none⟩ u).drew := SameF.drew (sameF_sets5 w u0 u1 u2 u3 u hb hb')

end Go.Proofs.YtcenijdaacbgpaaGreat.L

/- AddMul: the program. -/
namespace Go.Proofs.YtcenijdaacbgpaaGreat.L
open Go.RowKit Go.Proofs.YtcenijdaacbgpaaGreat.S
set_option linter.unusedVariables false
theorem mayL_ok {s : SysC} {ls : List (List T)} (h : mayL s ls = true) : sysOk s = true := by unfold mayL at h; exact (Bool.and_eq_true _ _ ▸ h).1

end Go.Proofs.YtcenijdaacbgpaaGreat.L
