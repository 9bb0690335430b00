/- The laws of layer 1 on drawn numbers: sums, differences, products, inverses; powers. -/
import Derived.Test.YtohngajjmlldjaaInv
import Derived.Test.YtohngajjmlldjaaDrawF
namespace Go.Proofs.Ytohngajjmlldjaa
open Go.RowKit
set_option linter.unusedVariables false

theorem fok_yes (n : Int) (w : World) (h0 : 0 ≤ n) (h1 : n < 2147483647) :
    Calls Try.prog 19 #[.int .i64 n] w fun e w' => e = .returned (.bool true) ∧ w = w' :=
  (fok_impl n w).mono fun e w' ⟨he, hw⟩ => ⟨by rw [he]; exact ret_bool (by simp; omega), hw⟩

theorem sub_add (a b : Int) : ((a - b) % 2147483647 + b) % 2147483647 = a % 2147483647 := by omega

/-- A product by an inverse. -/
theorem mul_inv (a b : Int) (h : b % 2147483647 ≠ 0) : a * b % 2147483647 * M.pw b 2147483645 % 2147483647 = a % 2147483647 := by
  have h1 := M.pw_inv b h
  rw [Int.mul_emod, Int.emod_emod, ← Int.mul_emod, Int.mul_assoc, Int.mul_emod, h1, Int.mul_one, Int.emod_emod]

set_option maxRecDepth 100000 in
set_option maxHeartbeats 1600000 in
theorem law_FnFields (a : Option Addr) (len cap : Nat) (w : World) (hr : Row w.heap.size w a len) :
    Calls Try.prog 3 #[.slice a len cap] w fun e w' => e = .returned (.bool true) ∧ Below w.heap.size w w' := by
  go_enter Try.func3, Try.ntmps3
  go_wp2_with fail
  refine (drawFMul_any a len cap w hr).mono ?_
  rintro e w1 ⟨x, y, rfl, ⟨x0, x1⟩, ⟨y0, y1⟩, be1⟩
  go_wp2_with fail
  refine (fadd_impl x y w1 x0 x1 y0 y1).mono ?_; rintro e w' ⟨rfl, rfl⟩
  go_wp2_with fail
  refine (fsub_impl x y w1 x0 x1 y0 y1).mono ?_; rintro e w' ⟨rfl, rfl⟩
  go_wp2_with fail
  refine (fmul_impl x y w1 x0 x1 y0 y1).mono ?_; rintro e w' ⟨rfl, rfl⟩
  go_wp2_with fail
  refine (fok_yes _ w1 (by omega) (by omega)).mono ?_; rintro e w' ⟨rfl, rfl⟩
  go_wp2_with fail
  refine (fok_yes _ w1 (by omega) (by omega)).mono ?_; rintro e w' ⟨rfl, rfl⟩
  go_wp2_with fail
  refine (fok_yes _ w1 (by omega) (by omega)).mono ?_; rintro e w' ⟨rfl, rfl⟩
  go_wp2_with fail
  refine (fadd_impl _ y w1 (by omega) (by omega) y0 y1).mono ?_; rintro e w' ⟨rfl, rfl⟩
  rw [sub_add]
  go_wp2_with fail
  refine (fof_impl x w1 x0 x1).mono ?_; rintro e w' ⟨rfl, rfl⟩
  go_wp2_with fail
  refine (fadd_impl y x w1 y0 y1 x0 x1).mono ?_; rintro e w' ⟨rfl, rfl⟩
  rw [Int.add_comm y x]
  go_wp2_with fail
  refine (fmul_impl y x w1 y0 y1 x0 x1).mono ?_; rintro e w' ⟨rfl, rfl⟩
  rw [Int.mul_comm y x]
  go_wp2_with fail
  refine (finv_impl y w1 y0 y1).mono ?_; rintro e w2 ⟨rfl, be2⟩
  have be := be1.trans (be2.mono be1.size)
  go_wp2_with fail
  refine (fof_impl y w2 y0 y1).mono ?_; rintro e w' ⟨rfl, rfl⟩
  clear be1 be2
  by_cases h : y % 2147483647 = 0
  · have hm : x * y % 2147483647 = 0 := by rw [Int.mul_emod, h, Int.mul_zero]; rfl
    rw [hm, h, M.pw_none y h]
    clear hm h
    go_wp2_with fail
    go_ret
    exact ⟨rfl, be⟩
  · have hb : (y % 2147483647 == 0) = false := by simpa using h
    have MI := Lib.hid (mul_inv x y h)
    have PI := Lib.hid (M.pw_inv y h)
    have p0 := M.pw_lo y 2147483645
    have p1 := M.pw_hi y 2147483645
    clear h
    go_wp2_with fail
    refine (fmul_impl _ _ w2 (by omega) (by omega) (by omega) (by omega)).mono ?_; rintro e w' ⟨rfl, rfl⟩
    rw [MI.out]
    go_wp2_with fail
    refine (fof_impl x w2 x0 x1).mono ?_; rintro e w' ⟨rfl, rfl⟩
    go_wp2_with fail
    refine (fmul_impl _ _ w2 (by omega) (by omega) (by omega) (by omega)).mono ?_; rintro e w' ⟨rfl, rfl⟩
    rw [PI.out]
    go_wp2_with fail
    go_ret
    exact ⟨rfl, be⟩

set_option maxHeartbeats 800000 in
/-- 'fields()': a half twice is one, and so is -1 + 2. -/
theorem fields_any (w : World) :
    Calls Try.prog 24 #[] w fun e w' => e = .returned (.bool true) ∧ Below w.heap.size w w' := by
  have PI := Lib.hid (M.pw_inv 2 (by omega))
  have p0 := M.pw_lo 2 2147483645
  have p1 := M.pw_hi 2 2147483645
  go_enter Try.func24, Try.ntmps24
  go_wp2_with fail
  refine (finv_impl 2 w (by omega) (by omega)).mono ?_; rintro e w2 ⟨rfl, be⟩
  go_wp2_with fail
  refine (fmul_impl 2 _ w2 (by omega) (by omega) (by omega) (by omega)).mono ?_; rintro e w' ⟨rfl, rfl⟩
  rw [PI.out]
  go_wp2_with fail
  refine (fadd_impl 2147483646 2 w2 (by omega) (by omega) (by omega) (by omega)).mono ?_; rintro e w' ⟨rfl, rfl⟩
  go_wp2_with fail
  go_ret
  exact ⟨rfl, be⟩

/-- What FSigned returns. -/
def signed (a : Int) : Int := if a % 2147483647 ≤ 1073741823 then a % 2147483647 else a % 2147483647 - 2147483647
theorem fsigned_impl (a : Int) (w : World) (a0 : -9223372036854775808 ≤ a) (a1 : a ≤ 9223372036854775807) :
    Calls Try.prog 25 #[.int .i64 a] w fun e w' => e = .returned (.int .i64 (signed a)) ∧ w = w' := by
  by_cases h : a % 2147483647 ≤ 1073741823
  · rw [show signed a = a % 2147483647 from if_pos h]
    exact fsigned_impl_lo a w a0 a1 h
  · rw [show signed a = a % 2147483647 - 2147483647 from if_neg h]
    exact fsigned_impl_hi a w a0 a1 (by omega)
theorem signed_facts (a : Int) : -1073741823 ≤ signed a ∧ signed a ≤ 1073741823 ∧ signed a % 2147483647 = a % 2147483647 := by
  unfold signed; split <;> omega

theorem fpow_halves (a : Int) (m : Nat) : fpow a ((m : Int) / 2) * fpow a ((m : Int) - (m : Int) / 2) % 2147483647 = fpow a m := by
  have e1 : ((m : Int) / 2) = ((m / 2 : Nat) : Int) := by omega
  have e2 : ((m : Int) - (m : Int) / 2) = ((m - m / 2 : Nat) : Int) := by omega
  rw [e2, e1, fpow_nat, fpow_nat, fpow_nat, ← M.pw_add, show m / 2 + (m - m / 2) = m from by omega]
theorem fpow_lo (a n : Int) : 0 ≤ fpow a n := by unfold fpow; split; omega; exact M.pw_lo _ _
theorem fpow_hi (a n : Int) : fpow a n < 2147483647 := by unfold fpow; split; omega; exact M.pw_hi _ _
theorem fpow_0 (a : Int) : fpow a 0 = 1 := (fpow_nat a 0).trans (M.pw_zero a)
theorem fpow_1 (a : Int) : fpow a 1 = a % 2147483647 := (fpow_nat a 1).trans (M.pw_one a)

set_option maxRecDepth 100000 in
set_option maxHeartbeats 1600000 in
theorem law_FnPows (a : Option Addr) (len cap : Nat) (w : World) (hr : Row w.heap.size w a len) :
    Calls Try.prog 4 #[.slice a len cap] w fun e w' => e = .returned (.bool true) ∧ Below w.heap.size w w' := by
  go_enter Try.func4, Try.ntmps4
  go_wp2_with fail
  refine (drawFPow_any a len cap w hr).mono ?_
  rintro e w1 ⟨x, n, rfl, ⟨x0, x1⟩, ⟨n0, n1⟩, be1⟩
  go_wp2_with fail
  refine (fpow_impl x n w1 x0 x1 n1).mono ?_; rintro e w' ⟨rfl, rfl⟩
  by_cases h : n < 0
  · rw [fpow_neg h]
    go_wp2_with fail
    refine (fields_any w1).mono ?_; rintro e w2 ⟨rfl, be2⟩
    have be := be1.trans (be2.mono be1.size)
    clear be1 be2
    go_wp2_with fail
    go_ret
    exact ⟨rfl, be⟩
  · obtain ⟨m, rfl⟩ := Int.eq_ofNat_of_zero_le (by omega : 0 ≤ n)
    obtain ⟨s0, s1, s2⟩ := signed_facts x
    have SF := Lib.hid s2
    have FH := Lib.hid (fpow_halves x m)
    have f0 := fpow_lo x ((m : Int) / 2)
    have f1 := fpow_hi x ((m : Int) / 2)
    have f2 := fpow_lo x ((m : Int) - (m : Int) / 2)
    have f3 := fpow_hi x ((m : Int) - (m : Int) / 2)
    clear s2
    go_wp2_with fail
    refine (fsigned_impl x w1 x0 x1).mono ?_; rintro e w' ⟨rfl, rfl⟩
    go_wp2_with fail
    refine (fpow_impl x _ w1 x0 x1 (by omega)).mono ?_; rintro e w' ⟨rfl, rfl⟩
    go_wp2_with fail
    refine (fpow_impl x _ w1 x0 x1 (by omega)).mono ?_; rintro e w' ⟨rfl, rfl⟩
    go_wp2_with fail
    refine (fmul_impl _ _ w1 (by omega) (by omega) (by omega) (by omega)).mono ?_; rintro e w' ⟨rfl, rfl⟩
    rw [FH.out]
    go_wp2_with fail
    refine (fof_impl _ w1 (by omega) (by omega)).mono ?_; rintro e w' ⟨rfl, rfl⟩
    rw [SF.out]
    go_wp2_with fail
    refine (fof_impl x w1 x0 x1).mono ?_; rintro e w' ⟨rfl, rfl⟩
    go_wp2_with fail
    refine (fpow_impl x 1 w1 x0 x1 (by omega)).mono ?_; rintro e w' ⟨rfl, rfl⟩
    rw [fpow_1]
    go_wp2_with fail
    refine (fof_impl x w1 x0 x1).mono ?_; rintro e w' ⟨rfl, rfl⟩
    go_wp2_with fail
    refine (fpow_impl x 0 w1 x0 x1 (by omega)).mono ?_; rintro e w' ⟨rfl, rfl⟩
    rw [fpow_0]
    go_wp2_with fail
    go_ret
    exact ⟨rfl, be1⟩
end Go.Proofs.Ytohngajjmlldjaa
