/- The field: what each function of layer 1 of the program, and of its model, returns. -/
import Derived.Test.YteekpdlkdpkegaaProg
import Derived.Test.YteekpdlkdpkegaaMath
import Derived.WalkKit
import Derived.Outline
import Derived.Lib.Hide
namespace Go.Proofs.Yteekpdlkdpkegaa
open Go.RowKit
set_option linter.unusedVariables false

theorem ret_int {k : IntKind} {a b : Int} (h : a = b) : Ending.returned (.int k a) = .returned (.int k b) := by rw [h]
theorem ret_bool {a b : Bool} (h : a = b) : Ending.returned (.bool a) = .returned (.bool b) := by rw [h]

/-- Go's remainder by P, brought up where it is negative, is the remainder of the mathematics. -/
theorem tmod_lo (n : Int) (h : n.tmod 2147483647 < 0) : n.tmod 2147483647 + 2147483647 = n % 2147483647 := by
  have h1 := Int.tmod_eq_emod (a := n) (b := 2147483647)
  have h2 := Int.emod_nonneg n (by omega : (2147483647 : Int) ≠ 0)
  rw [h1] at h ⊢
  split at h <;> rename_i hc <;> simp at h <;> simp [hc] <;> omega
theorem tmod_hi (n : Int) (h : ¬ n.tmod 2147483647 < 0) : n.tmod 2147483647 = n % 2147483647 := by
  have h1 := Int.tmod_eq_emod (a := n) (b := 2147483647)
  have h2 := Int.emod_nonneg n (by omega : (2147483647 : Int) ≠ 0)
  have h3 := Int.emod_lt_of_pos n (by omega : (0 : Int) < 2147483647)
  rw [h1] at h ⊢
  split at h <;> rename_i hc <;> simp at h <;> simp [hc] <;> omega
theorem tmod_bd (n : Int) : -2147483647 ≤ n.tmod 2147483647 ∧ n.tmod 2147483647 ≤ 2147483647 := by
  by_cases h : n.tmod 2147483647 < 0
  · have := tmod_lo n h; omega
  · have := tmod_hi n h; omega
/-- A product of two numbers of the field. -/
theorem mul_bd (a b : Int) (a0 : 0 ≤ a) (a1 : a < 2147483647) (b0 : 0 ≤ b) (b1 : b < 2147483647) : 0 ≤ a * b ∧ a * b ≤ 4611686014132420609 := by
  refine ⟨Int.mul_nonneg a0 b0, ?_⟩
  have h1 : a * b ≤ 2147483647 * b := Int.mul_le_mul_of_nonneg_right (by omega) b0
  omega
theorem em_bd (n : Int) : 0 ≤ n % 2147483647 ∧ n % 2147483647 < 2147483647 := by omega

set_option maxHeartbeats 400000 in
theorem elemOf_any (n : Int) (w : World) (h0 : -9223372036854775808 ≤ n) (h1 : n ≤ 9223372036854775807) :
    Calls Try.prog 97 #[.int .i64 n] w fun e w' => e = .returned (.int .i64 (n % 2147483647)) ∧ w = w' := by
  obtain ⟨b0, b1⟩ := tmod_bd n
  by_cases h : n.tmod 2147483647 < 0
  · have hh := tmod_lo n h
    have H := Lib.hid hh; clear hh
    go_enter Try.func97, Try.ntmps97
    go_wp2
    go_ret
    exact ⟨ret_int H.out, rfl⟩
  · have hh := tmod_hi n h
    have H := Lib.hid hh; clear hh
    go_enter Try.func97, Try.ntmps97
    go_wp2
    go_ret
    exact ⟨ret_int H.out, rfl⟩

theorem fok_impl (n : Int) (w : World) :
    Calls Try.prog 161 #[.int .i64 n] w fun e w' => e = .returned (.bool (decide (0 ≤ n ∧ n < 2147483647))) ∧ w = w' := by
  by_cases h0 : 0 ≤ n
  · by_cases h1 : n < 2147483647
    all_goals
      go_enter Try.func161, Try.ntmps161
      go_wp2
      go_ret
      exact ⟨ret_bool (by simp; omega), rfl⟩
  · go_enter Try.func161, Try.ntmps161
    go_wp2
    go_ret
    exact ⟨ret_bool (by simp; omega), rfl⟩

theorem plus_any (a b : Int) (w : World) (a0 : 0 ≤ a) (a1 : a < 2147483647) (b0 : 0 ≤ b) (b1 : b < 2147483647) :
    Calls Try.prog 171 #[.int .i64 a, .int .i64 b] w fun e w' => e = .returned (.int .i64 ((a + b) % 2147483647)) ∧ w = w' := by
  go_enter Try.func171, Try.ntmps171
  go_wp2_with (go_at_call 97; refine (elemOf_any _ _ (by omega) (by omega)).mono ?_; rintro e w' ⟨rfl, rfl⟩)
  go_ret
  exact ⟨rfl, rfl⟩

theorem times_any (a b : Int) (w : World) (a0 : 0 ≤ a) (a1 : a < 2147483647) (b0 : 0 ≤ b) (b1 : b < 2147483647) :
    Calls Try.prog 170 #[.int .i64 a, .int .i64 b] w fun e w' => e = .returned (.int .i64 (a * b % 2147483647)) ∧ w = w' := by
  obtain ⟨m0, m1⟩ := mul_bd a b a0 a1 b0 b1
  go_enter Try.func170, Try.ntmps170
  go_wp2_with (go_at_call 97; refine (elemOf_any _ _ (by omega) (by omega)).mono ?_; rintro e w' ⟨rfl, rfl⟩)
  go_ret
  exact ⟨rfl, rfl⟩

theorem l1mul_any (a b : Int) (w : World) (a0 : 0 ≤ a) (a1 : a < 2147483647) (b0 : 0 ≤ b) (b1 : b < 2147483647) :
    Calls Try.prog 158 #[.int .i64 a, .int .i64 b] w fun e w' => e = .returned (.int .i64 (a * b % 2147483647)) ∧ w = w' := by
  obtain ⟨m0, m1⟩ := mul_bd a b a0 a1 b0 b1
  go_enter Try.func158, Try.ntmps158
  go_wp2
  go_ret
  exact ⟨rfl, rfl⟩

/-- What a loop of squarings keeps: r times b to the m is what was asked. -/
def PowInv (a : Int) (n : Nat) (b : Int) (m : Nat) (r : Int) : Prop := r * M.pw b m % 2147483647 = M.pw a n

theorem PowInv.start (a : Int) (n : Nat) : PowInv a n a n 1 := by
  unfold PowInv; have := M.pw_lo a n; have := M.pw_hi a n; omega
theorem PowInv.stop {a : Int} {n : Nat} {b r : Int} (h : PowInv a n b 0 r) (r0 : 0 ≤ r) (r1 : r < 2147483647) : r = M.pw a n := by
  unfold PowInv at h; rw [M.pw_zero] at h; omega
theorem PowInv.even {a : Int} {n : Nat} {b r : Int} {m : Nat} (h : PowInv a n b m r) (he : m % 2 = 0) : PowInv a n (b * b % 2147483647) (m / 2) r := by
  unfold PowInv at h ⊢
  obtain ⟨k, rfl⟩ : ∃ k, m = 2 * k := ⟨m / 2, by omega⟩
  rw [show 2 * k / 2 = k from by omega, M.pw_even, h]
theorem PowInv.odd {a : Int} {n : Nat} {b r : Int} {m : Nat} (h : PowInv a n b m r) (he : m % 2 = 1) : PowInv a n (b * b % 2147483647) (m / 2) (r * b % 2147483647) := by
  unfold PowInv at h ⊢
  obtain ⟨k, rfl⟩ : ∃ k, m = 2 * k + 1 := ⟨m / 2, by omega⟩
  rw [show (2 * k + 1) / 2 = k from by omega]
  rw [M.pw_odd] at h
  rw [← h, Int.mul_emod, Int.emod_emod, ← Int.mul_emod, Int.mul_emod r, Int.emod_emod, ← Int.mul_emod, Int.mul_assoc]

set_option maxHeartbeats 400000 in
theorem fof_impl (a : Int) (w : World) (a0 : -9223372036854775808 ≤ a) (a1 : a ≤ 9223372036854775807) :
    Calls Try.prog 157 #[.int .i64 a] w fun e w' => e = .returned (.int .i64 (a % 2147483647)) ∧ w = w' := by
  go_enter Try.func157, Try.ntmps157
  go_wp2_with (go_at_call 97; refine (elemOf_any _ _ (by omega) (by omega)).mono ?_; rintro e w' ⟨rfl, rfl⟩)
  go_ret
  exact ⟨rfl, rfl⟩

set_option maxHeartbeats 400000 in
theorem l1add_any (a b : Int) (w : World) (a0 : 0 ≤ a) (a1 : a < 2147483647) (b0 : 0 ≤ b) (b1 : b < 2147483647) :
    Calls Try.prog 159 #[.int .i64 a, .int .i64 b] w fun e w' => e = .returned (.int .i64 ((a + b) % 2147483647)) ∧ w = w' := by
  go_enter Try.func159, Try.ntmps159
  go_wp2
  go_ret
  exact ⟨rfl, rfl⟩

/-- FPow and its model: 0 for an exponent below 0. -/
def fpow (a n : Int) : Int := if n < 0 then 0 else M.pw a n.toNat

theorem fpow_neg {a n : Int} (h : n < 0) : fpow a n = 0 := if_pos h
theorem fpow_nat (a : Int) (n : Nat) : fpow a n = M.pw a n := by unfold fpow; rw [if_neg (by omega), Int.toNat_natCast]

/-- The negation in the field; -1 for what is no number of the field. -/
def fneg (a : Int) : Int := if 0 ≤ a ∧ a < 2147483647 then (0 - a) % 2147483647 else -1

end Go.Proofs.Yteekpdlkdpkegaa
