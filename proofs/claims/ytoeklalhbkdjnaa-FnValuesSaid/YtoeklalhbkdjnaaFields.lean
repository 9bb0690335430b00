/- The laws of layer 1 on drawn numbers: sums, differences, products, inverses; powers. -/
import Derived.Test.YtoeklalhbkdjnaaInv
import Derived.Test.YtoeklalhbkdjnaaRow
namespace Go.Proofs.Ytoeklalhbkdjnaa
open Go.RowKit
set_option linter.unusedVariables false

theorem fok_yes (n : Int) (w : World) (h0 : 0 ≤ n) (h1 : n < 2147483647) :
    Calls Try.prog 43 #[.int .i64 n] w fun e w' => e = .returned (.bool true) ∧ w = w' :=
  (fok_impl n w).mono fun e w' ⟨he, hw⟩ => ⟨by rw [he]; exact ret_bool (by simp; omega), hw⟩

theorem sub_add (a b : Int) : ((a - b) % 2147483647 + b) % 2147483647 = a % 2147483647 := by omega

/-- A product by an inverse. -/
theorem mul_inv (a b : Int) (h : b % 2147483647 ≠ 0) : a * b % 2147483647 * M.pw b 2147483645 % 2147483647 = a % 2147483647 := by
  have h1 := M.pw_inv b h
  rw [Int.mul_emod, Int.emod_emod, ← Int.mul_emod, Int.mul_assoc, Int.mul_emod, h1, Int.mul_one, Int.emod_emod]

/-- What FSigned returns. -/
def signed (a : Int) : Int := if a % 2147483647 ≤ 1073741823 then a % 2147483647 else a % 2147483647 - 2147483647
theorem signed_facts (a : Int) : -1073741823 ≤ signed a ∧ signed a ≤ 1073741823 ∧ signed a % 2147483647 = a % 2147483647 := by
  unfold signed; split <;> omega

theorem fpow_halves (a : Int) (m : Nat) : fpow a ((m : Int) / 2) * fpow a ((m : Int) - (m : Int) / 2) % 2147483647 = fpow a m := by
  have e1 : ((m : Int) / 2) = ((m / 2 : Nat) : Int) := by omega
  have e2 : ((m : Int) - (m : Int) / 2) = ((m - m / 2 : Nat) : Int) := by omega
  rw [e2, e1, fpow_nat, fpow_nat, fpow_nat, ← M.pw_add, show m / 2 + (m - m / 2) = m from by omega]
theorem fpow_lo (a n : Int) : 0 ≤ fpow a n := by unfold fpow; split; omega; exact M.pw_lo _ _
theorem fpow_hi (a n : Int) : fpow a n < 2147483647 := by unfold fpow; split; omega; exact M.pw_hi _ _
theorem fpow_0 (a : Int) : fpow a 0 = 1 := (fpow_nat a 0).trans (M.pw_zero a)
theorem fpow_1 (a : Int) : fpow a 1 = a % 2147483647 := (fpow_nat a 1).trans (M.pw_one a)

end Go.Proofs.Ytoeklalhbkdjnaa
