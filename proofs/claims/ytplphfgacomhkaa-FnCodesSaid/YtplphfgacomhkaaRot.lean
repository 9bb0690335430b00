/- Rotations of eight bits: the program's and the model's. -/
import Derived.Test.YtplphfgacomhkaaB1
import Derived.BigQuiet
import Derived.Deep.QuietTactic
namespace Go.Proofs.Ytplphfgacomhkaa.L
open Go.RowKit Go.Proofs.Ytplphfgacomhkaa.S
set_option linter.unusedVariables false
set_option linter.unusedSimpArgs false

def rotE (x k : Int) : Int := bits BinOp.or IntKind.i64 (wrap64 (x * 2 ^ k.toNat)) (x / 2 ^ (8 - k).toNat)
def rotV (x k : Int) : Int := bits BinOp.and IntKind.i64 (rotE x k) 255
theorem rot_facts : ((List.range 256).all fun x => (List.range 9).all fun k => decide (0 ≤ rotV x k ∧ rotV x k ≤ 255 ∧ 0 ≤ rotE x k ∧ Int.tmod (rotE x k) 256 = rotV x k ∧ rotV (rotV x k) (8 - k) = x)) = true := by kernel_rfl
theorem rot_at {x k : Int} (x0 : 0 ≤ x) (x1 : x ≤ 255) (k0 : 0 ≤ k) (k1 : k ≤ 8) : 0 ≤ rotV x k ∧ rotV x k ≤ 255 ∧ 0 ≤ rotE x k ∧ Int.tmod (rotE x k) 256 = rotV x k ∧ rotV (rotV x k) (8 - k) = x := by
  have h := rot_facts
  simp only [List.all_eq_true, List.mem_range, decide_eq_true_eq] at h
  have := h x.toNat (by omega) k.toNat (by omega)
  rw [show ((x.toNat : Nat) : Int) = x from by omega, show ((k.toNat : Nat) : Int) = k from by omega] at this
  exact this

theorem isByte_any (x : Int) (w : World) : Calls Try.prog 36 #[.int .i64 x] w fun e w' => e = .returned (.bool (decide (0 ≤ x ∧ x ≤ 255))) ∧ Below w.heap.size w w' := by
  by_cases h0 : 0 ≤ x
  · go_enter Try.func36, Try.ntmps36
    go_wp2_with fail
    go_ret
    exact ⟨by simp [h0], Below.refl _ _⟩
  · go_enter Try.func36, Try.ntmps36
    go_wp2_with fail
    go_ret
    have hn : (decide (0 ≤ x) && decide (x ≤ 255)) = false := by simp; omega
    exact ⟨by rw [hn]; rfl, Below.refl _ _⟩

def rot8 (x k : Int) : Int := if x < 0 ∨ 255 < x ∨ k < 0 ∨ 8 < k then 0 else rotV x k
theorem rot8_in {x k : Int} (h : ¬ (x < 0 ∨ 255 < x ∨ k < 0 ∨ 8 < k)) : rot8 x k = rotV x k := if_neg h
theorem rot8_out {x k : Int} (h : x < 0 ∨ 255 < x ∨ k < 0 ∨ 8 < k) : rot8 x k = 0 := if_pos h
end Go.Proofs.Ytplphfgacomhkaa.L
