/- Exact laws of functions that add to a system (written by tools/lawadd.py): the program's function and its model return the same, write into no argument, and own what they return. -/
import Derived.Test.YtcenijdaacbgpaaGreatB15
import Derived.Test.YtcenijdaacbgpaaGreatRgn
import Derived.Test.YtcenijdaacbgpaaGreatB2
import Derived.Test.YtcenijdaacbgpaaGreatB3
import Derived.Deep.DeepCutAuto
namespace Go.Proofs.YtcenijdaacbgpaaGreat.L
open Go.RowKit Go.Proofs.YtcenijdaacbgpaaGreat.S
set_option linter.unusedVariables false
set_option linter.unusedSimpArgs false

theorem tot_snoc {α : Type} (f : α → Nat) (xs : List α) (x : α) : tot f (xs ++ [x]) = tot f xs + f x := by unfold tot; simp
theorem totS_hint (s : SysC) (h : HintC) : totS (sHint s h) = totS s + fH h := by unfold totS sHint; simp [tot_snoc]; omega
theorem totS_con (s : SysC) (c : ConC) : totS (sCon s c) = totS s + fC c := by unfold totS sCon; simp [tot_snoc]; omega
theorem totS_mul (s : SysC) (x y : List T) : totS (mulS s x y) = totS s + (2 + 2 * x.length + 2 * y.length) + (2 * x.length + 2 * y.length + 2) := by
 unfold mulS; rw [totS_con, totS_hint]; rfl
theorem size_of {s t r : SysC} {b k : Bool} {n : Nat} (Hr : r = if b = true then (if k = true then t else s) else sys0) (h : totS t ≤ totS s + n) : totS r ≤ totS s + n := by
 rw [Hr]
 split
 ·split <;> omega
 ·show 0 ≤ _; omega
theorem len_of {v x : List T} {c : Bool} {n : Nat} (Hv : v = if c = true then x else []) (h : x.length ≤ n) : v.length ≤ n := by
 rw [Hv]; split
 ·exact h
 ·exact Nat.zero_le _
end Go.Proofs.YtcenijdaacbgpaaGreat.L
