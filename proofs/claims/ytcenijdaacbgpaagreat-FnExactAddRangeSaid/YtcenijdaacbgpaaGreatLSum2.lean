/- The sum of a slice of combinations, and its packing: the program's functions and their models. -/
import Derived.Test.YtcenijdaacbgpaaGreatB4
import Derived.Test.YtcenijdaacbgpaaGreatB7
import Derived.Test.YtcenijdaacbgpaaGreatSpecLin
import Derived.Test.YtcenijdaacbgpaaGreatB2
import Derived.Deep.DeepCutAuto
namespace Go.Proofs.YtcenijdaacbgpaaGreat.L
open Go.RowKit Go.Proofs.YtcenijdaacbgpaaGreat.S
set_option linter.unusedVariables false
set_option linter.unusedSimpArgs false

/-- The sum of a list, from acc on. -/
def lsum : List T → List (List T) → List T × Bool
 | acc, [] => (acc, true)
 | acc, a :: r => if lok acc a = true then lsum (lcomb 1 acc a) r else ([], false)
theorem frozen_set_alloc {w : World} {b : Nat} {p : Addr} {u : Value} {o : Obj} (h : w.frozen? ⟨b, 0, none⟩ = false) (hb : b < w.heap.size) : ((w.setCell p u).alloc o).frozen? ⟨b, 0, none⟩ = false :=
 ((Below.alloc (Below.refl _ (w.setCell p u)) (Nat.le_refl _) o).frozen (p := ⟨b, 0, none⟩) (show b < (w.setCell p u).heap.size by rw [World.size_setCell]; exact hb)).trans (by rw [World.frozen?_setCell]; exact h)
theorem lsum_step {acc : List T} {ls : List (List T)} {k : Nat} (hk : k < ls.length) (h : lok acc ls[k] = true) : lsum acc (ls.drop k) = lsum (lcomb 1 acc ls[k]) (ls.drop (k + 1)) := by
 rw [List.drop_eq_getElem_cons hk]; simp [lsum, h]
theorem lsum_stop {acc : List T} {ls : List (List T)} {k : Nat} (hk : k < ls.length) (h : lok acc ls[k] = false) : lsum acc (ls.drop k) = ([], false) := by
 rw [List.drop_eq_getElem_cons hk]; simp [lsum, h]
theorem lsum_len : ∀ (ls : List (List T)) (acc : List T), acc.length ≤ 6000 → (lsum acc ls).1.length ≤ 6000
 | [], acc, h => h
 | a :: r, acc, h => by
  rw [lsum]
  split
  ·exact lsum_len r _ (lcomb_len _ _ _)
  ·simp
def sumL (ls : List (List T)) : List T × Bool := if 50 < ls.length then ([], false) else lsum [] ls
theorem sumL_len (ls : List (List T)) : (sumL ls).1.length ≤ 6000 := by
 unfold sumL
 split
 ·simp
 ·exact lsum_len ls [] (by simp)

end Go.Proofs.YtcenijdaacbgpaaGreat.L
