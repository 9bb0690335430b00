/- Copies of slices of numbers, and their comparison. -/
import Derived.Test.YteekpdlkdpkegaaSlices
namespace Go.Proofs.Yteekpdlkdpkegaa.S
open Go.RowKit
set_option linter.unusedVariables false

theorem take_ne {xs ys : List Int} {k : Nat} {x y : Int} (hx : xs[k]? = some x) (hy : ys[k]? = some y) (h : ¬ x = y) : decide (xs = ys) = false := by
  rw [decide_eq_false_iff_not]
  intro e
  rw [e, hy] at hx
  simp at hx
  exact h hx.symm

theorem intInfo : (Try.prog.info? 3).map (fun i => (i.zero, i.size, i.bytes)) = some (some (.int .i64 0), 1, 8) := by kernel_rfl

/-- The copy's cells behind k rounds. -/
def part (xs : List Int) (k : Nat) : List Value := (xs.take k).map (Value.int .i64) ++ List.replicate (xs.length - k) (.int .i64 0)

theorem part_zero (xs : List Int) : part xs 0 = List.replicate xs.length (.int .i64 0) := by simp [part]
theorem part_end (xs : List Int) : part xs xs.length = xs.map (Value.int .i64) := by simp [part]
theorem part_at (xs : List Int) (k : Nat) (h : k < xs.length) : (part xs k)[k]? = some (.int .i64 0) := by
  unfold part
  have hl : ((xs.take k).map (Value.int .i64)).length = k := by simp; omega
  rw [List.getElem?_append_right (by omega), hl, Nat.sub_self, List.getElem?_replicate, if_pos (by omega)]
theorem part_set (xs : List Int) (k : Nat) (x : Int) (h : xs[k]? = some x) : (part xs k).set k (.int .i64 x) = part xs (k + 1) := by
  have hk : k < xs.length := (List.getElem?_eq_some_iff.1 h).1
  unfold part
  rw [take_step h, List.set_append_right _ _ (by simp; omega)]
  simp only [List.length_map, List.length_take, Nat.min_eq_left (Nat.le_of_lt hk), Nat.sub_self, List.map_append, List.append_assoc]
  rw [show xs.length - k = (xs.length - (k + 1)) + 1 from by omega, List.replicate_succ, List.set_cons_zero]
  rfl

end Go.Proofs.Yteekpdlkdpkegaa.S
