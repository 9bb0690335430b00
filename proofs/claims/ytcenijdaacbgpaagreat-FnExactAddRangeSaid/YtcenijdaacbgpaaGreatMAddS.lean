/- The model's Add functions: shared (written by tools/gen/mdone.py). -/
import Derived.Test.YtcenijdaacbgpaaGreatB15
import Derived.Test.YtcenijdaacbgpaaGreatMGate2
import Derived.Deep.DeepCutAuto
namespace Go.Proofs.YtcenijdaacbgpaaGreat.L
open Go.RowKit Go.Proofs.YtcenijdaacbgpaaGreat.S
set_option linter.unusedVariables false
set_option linter.unusedSimpArgs false

theorem linW_ok {n : Int} {x : List T} (h : linW n x = true) : linOk x = true := by unfold linW at h; exact (Bool.and_eq_true _ _ ▸ h).1
theorem small_con {s : SysC} {c : ConC} (sm : Small s) (hk : sysOk s = true) (na : c.a.length ≤ 1048576) (nb : c.b.length ≤ 1048576) (nc : c.c.length ≤ 1048576) : Small (sCon s c) := by
 have lim := limB_facts (sysOk_limB hk)
 obtain ⟨a1, a2, a3, a4, a5, a6⟩ := sm
 refine ⟨a1, a2, ?_, a4, a5, fun c' hc => ?_⟩
 ·show (s.cons ++ [_]).length ≤ _
  simp; omega
 ·rcases List.mem_append.1 (show c' ∈ s.cons ++ [c] from hc) with h1 | h1
  ·exact a6 c' h1
  ·rw [List.mem_singleton] at h1; subst h1; exact ⟨na, nb, nc⟩
end Go.Proofs.YtcenijdaacbgpaaGreat.L
