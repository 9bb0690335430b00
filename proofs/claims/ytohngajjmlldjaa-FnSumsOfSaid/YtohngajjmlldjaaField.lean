/- The field: what each function of layer 1 of the program, and of its model, returns. -/
import Derived.Test.YtohngajjmlldjaaProg
import Derived.Test.YtohngajjmlldjaaMath
import Derived.WalkKit
import Derived.Outline
import Derived.Lib.Hide
namespace Go.Proofs.Ytohngajjmlldjaa
open Go.RowKit
set_option linter.unusedVariables false

theorem ret_int {k : IntKind} {a b : Int} (h : a = b) : Ending.returned (.int k a) = .returned (.int k b) := by rw [h]
theorem ret_bool {a b : Bool} (h : a = b) : Ending.returned (.bool a) = .returned (.bool b) := by rw [h]

/-- Go's remainder by P, brought up where it is negative, is the remainder of the mathematics. -/
theorem tmod_lo (n : Int) (h : n.tmod 2147483647 < 0) : n.tmod 2147483647 + 2147483647 = n % 2147483647 := by
  have h1 := Int.tmod_eq_emod (a := n) (b := 2147483647)
  have h2 := Int.emod_nonneg n (by omega : (2147483647 : Int) ≠ 0)
  rw [h1] at h ⊢
  split at h <;> rename_i hc <;> simp at h <;> simp [hc] <;> omega
theorem tmod_hi (n : Int) (h : ¬ n.tmod 2147483647 < 0) : n.tmod 2147483647 = n % 2147483647 := by
  have h1 := Int.tmod_eq_emod (a := n) (b := 2147483647)
  have h2 := Int.emod_nonneg n (by omega : (2147483647 : Int) ≠ 0)
  have h3 := Int.emod_lt_of_pos n (by omega : (0 : Int) < 2147483647)
  rw [h1] at h ⊢
  split at h <;> rename_i hc <;> simp at h <;> simp [hc] <;> omega
theorem tmod_bd (n : Int) : -2147483647 ≤ n.tmod 2147483647 ∧ n.tmod 2147483647 ≤ 2147483647 := by
  by_cases h : n.tmod 2147483647 < 0
  · have := tmod_lo n h; omega
  · have := tmod_hi n h; omega
/-- A product of two numbers of the field. -/
theorem mul_bd (a b : Int) (a0 : 0 ≤ a) (a1 : a < 2147483647) (b0 : 0 ≤ b) (b1 : b < 2147483647) : 0 ≤ a * b ∧ a * b ≤ 4611686014132420609 := by
  refine ⟨Int.mul_nonneg a0 b0, ?_⟩
  have h1 : a * b ≤ 2147483647 * b := Int.mul_le_mul_of_nonneg_right (by omega) b0
  omega
theorem em_bd (n : Int) : 0 ≤ n % 2147483647 ∧ n % 2147483647 < 2147483647 := by omega

set_option maxHeartbeats 400000 in
theorem elemOf_any (n : Int) (w : World) (h0 : -9223372036854775808 ≤ n) (h1 : n ≤ 9223372036854775807) :
    Calls Try.prog 43 #[.int .i64 n] w fun e w' => e = .returned (.int .i64 (n % 2147483647)) ∧ w = w' := by
  obtain ⟨b0, b1⟩ := tmod_bd n
  by_cases h : n.tmod 2147483647 < 0
  · have hh := tmod_lo n h
    have H := Lib.hid hh; clear hh
    go_enter Try.func43, Try.ntmps43
    go_wp2
    go_ret
    exact ⟨ret_int H.out, rfl⟩
  · have hh := tmod_hi n h
    have H := Lib.hid hh; clear hh
    go_enter Try.func43, Try.ntmps43
    go_wp2
    go_ret
    exact ⟨ret_int H.out, rfl⟩

theorem fok_impl (n : Int) (w : World) :
    Calls Try.prog 19 #[.int .i64 n] w fun e w' => e = .returned (.bool (decide (0 ≤ n ∧ n < 2147483647))) ∧ w = w' := by
  by_cases h0 : 0 ≤ n
  · by_cases h1 : n < 2147483647
    all_goals
      go_enter Try.func19, Try.ntmps19
      go_wp2
      go_ret
      exact ⟨ret_bool (by simp; omega), rfl⟩
  · go_enter Try.func19, Try.ntmps19
    go_wp2
    go_ret
    exact ⟨ret_bool (by simp; omega), rfl⟩

theorem plus_any (a b : Int) (w : World) (a0 : 0 ≤ a) (a1 : a < 2147483647) (b0 : 0 ≤ b) (b1 : b < 2147483647) :
    Calls Try.prog 44 #[.int .i64 a, .int .i64 b] w fun e w' => e = .returned (.int .i64 ((a + b) % 2147483647)) ∧ w = w' := by
  go_enter Try.func44, Try.ntmps44
  go_wp2_with (go_at_call 43; refine (elemOf_any _ _ (by omega) (by omega)).mono ?_; rintro e w' ⟨rfl, rfl⟩)
  go_ret
  exact ⟨rfl, rfl⟩

theorem minus_any (a b : Int) (w : World) (a0 : 0 ≤ a) (a1 : a < 2147483647) (b0 : 0 ≤ b) (b1 : b < 2147483647) :
    Calls Try.prog 45 #[.int .i64 a, .int .i64 b] w fun e w' => e = .returned (.int .i64 ((a - b) % 2147483647)) ∧ w = w' := by
  go_enter Try.func45, Try.ntmps45
  go_wp2_with (go_at_call 43; refine (elemOf_any _ _ (by omega) (by omega)).mono ?_; rintro e w' ⟨rfl, rfl⟩)
  go_ret
  exact ⟨rfl, rfl⟩

theorem times_any (a b : Int) (w : World) (a0 : 0 ≤ a) (a1 : a < 2147483647) (b0 : 0 ≤ b) (b1 : b < 2147483647) :
    Calls Try.prog 46 #[.int .i64 a, .int .i64 b] w fun e w' => e = .returned (.int .i64 (a * b % 2147483647)) ∧ w = w' := by
  obtain ⟨m0, m1⟩ := mul_bd a b a0 a1 b0 b1
  go_enter Try.func46, Try.ntmps46
  go_wp2_with (go_at_call 43; refine (elemOf_any _ _ (by omega) (by omega)).mono ?_; rintro e w' ⟨rfl, rfl⟩)
  go_ret
  exact ⟨rfl, rfl⟩

theorem l1mul_any (a b : Int) (w : World) (a0 : 0 ≤ a) (a1 : a < 2147483647) (b0 : 0 ≤ b) (b1 : b < 2147483647) :
    Calls Try.prog 56 #[.int .i64 a, .int .i64 b] w fun e w' => e = .returned (.int .i64 (a * b % 2147483647)) ∧ w = w' := by
  obtain ⟨m0, m1⟩ := mul_bd a b a0 a1 b0 b1
  go_enter Try.func56, Try.ntmps56
  go_wp2
  go_ret
  exact ⟨rfl, rfl⟩

/-- What a loop of squarings keeps: r times b to the m is what was asked. -/
def PowInv (a : Int) (n : Nat) (b : Int) (m : Nat) (r : Int) : Prop := r * M.pw b m % 2147483647 = M.pw a n

theorem PowInv.start (a : Int) (n : Nat) : PowInv a n a n 1 := by
  unfold PowInv; have := M.pw_lo a n; have := M.pw_hi a n; omega
theorem PowInv.stop {a : Int} {n : Nat} {b r : Int} (h : PowInv a n b 0 r) (r0 : 0 ≤ r) (r1 : r < 2147483647) : r = M.pw a n := by
  unfold PowInv at h; rw [M.pw_zero] at h; omega
theorem PowInv.even {a : Int} {n : Nat} {b r : Int} {m : Nat} (h : PowInv a n b m r) (he : m % 2 = 0) : PowInv a n (b * b % 2147483647) (m / 2) r := by
  unfold PowInv at h ⊢
  obtain ⟨k, rfl⟩ : ∃ k, m = 2 * k := ⟨m / 2, by omega⟩
  rw [show 2 * k / 2 = k from by omega, M.pw_even, h]
theorem PowInv.odd {a : Int} {n : Nat} {b r : Int} {m : Nat} (h : PowInv a n b m r) (he : m % 2 = 1) : PowInv a n (b * b % 2147483647) (m / 2) (r * b % 2147483647) := by
  unfold PowInv at h ⊢
  obtain ⟨k, rfl⟩ : ∃ k, m = 2 * k + 1 := ⟨m / 2, by omega⟩
  rw [show (2 * k + 1) / 2 = k from by omega]
  rw [M.pw_odd] at h
  rw [← h, Int.mul_emod, Int.emod_emod, ← Int.mul_emod, Int.mul_emod r, Int.emod_emod, ← Int.mul_emod, Int.mul_assoc]

set_option maxHeartbeats 1000000 in
theorem power_any (a : Int) (n : Nat) (w : World) (a0 : 0 ≤ a) (a1 : a < 2147483647) (n1 : n ≤ 9223372036854775807) :
    Calls Try.prog 48 #[.int .i64 a, .int .i64 n] w fun e w' => e = .returned (.int .i64 (M.pw a n)) ∧ w = w' := by
  go_enter Try.func48, Try.ntmps48
  go_wp2
  go_loop [0, 1, 5] (fun x y z => ∃ (b : Int) (m : Nat) (r : Int), 0 ≤ b ∧ b < 2147483647 ∧ 0 ≤ r ∧ r < 2147483647 ∧ m ≤ n ∧ PowInv a n b m r ∧ x = .int .i64 b ∧ y = .int .i64 m ∧ z = .int .i64 r) (fun _ y _ => (intOf y).toNat)
  case atStart => exact ⟨a, n, 1, a0, a1, by omega, by omega, Nat.le_refl _, PowInv.start a n, rfl, rfl, rfl⟩
  case round =>
    obtain ⟨b, m, r, b0, b1, r0, r1, hm, hi, rfl, rfl, rfl⟩ := hrel
    by_cases h : 0 < m
    · by_cases ho : m % 2 = 1
      · have hi' := hi.odd ho
        have e1 := em_bd (r * b)
        have e2 := em_bd (b * b)
        have hb : ((m : Int) % 2 == 1) = true := by simp; omega
        go_wp2_with (go_at_call 46; refine (times_any _ _ _ (by omega) (by omega) (by omega) (by omega)).mono ?_; rintro e w' ⟨rfl, rfl⟩)
        go_round
        case rel => exact ⟨_, m / 2, _, e2.1, e2.2, e1.1, e1.2, by omega, hi', rfl, by go_num, rfl⟩
        case measure => simp [intOf]; omega
      · have hi' := hi.even (by omega)
        have e2 := em_bd (b * b)
        have hb : ((m : Int) % 2 == 1) = false := by simp; omega
        go_wp2_with (go_at_call 46; refine (times_any _ _ _ (by omega) (by omega) (by omega) (by omega)).mono ?_; rintro e w' ⟨rfl, rfl⟩)
        go_round
        case rel => exact ⟨_, m / 2, _, e2.1, e2.2, r0, r1, by omega, hi', rfl, by go_num, rfl⟩
        case measure => simp [intOf]; omega
    · obtain rfl : m = 0 := by omega
      go_wp2
      go_ret
      exact ⟨ret_int (hi.stop r0 r1), rfl⟩

set_option maxHeartbeats 400000 in
theorem fof_impl (a : Int) (w : World) (a0 : -9223372036854775808 ≤ a) (a1 : a ≤ 9223372036854775807) :
    Calls Try.prog 20 #[.int .i64 a] w fun e w' => e = .returned (.int .i64 (a % 2147483647)) ∧ w = w' := by
  go_enter Try.func20, Try.ntmps20
  go_wp2_with (go_at_call 43; refine (elemOf_any _ _ (by omega) (by omega)).mono ?_; rintro e w' ⟨rfl, rfl⟩)
  go_ret
  exact ⟨rfl, rfl⟩

set_option maxHeartbeats 400000 in
theorem fadd_impl (a b : Int) (w : World) (a0 : -9223372036854775808 ≤ a) (a1 : a ≤ 9223372036854775807) (b0 : -9223372036854775808 ≤ b) (b1 : b ≤ 9223372036854775807) :
    Calls Try.prog 16 #[.int .i64 a, .int .i64 b] w fun e w' => e = .returned (.int .i64 ((a + b) % 2147483647)) ∧ w = w' := by
  go_enter Try.func16, Try.ntmps16
  go_wp2_with (first | (go_at_call 43; refine (elemOf_any _ _ (by omega) (by omega)).mono ?_; rintro e w' ⟨rfl, rfl⟩) | (go_at_call 44; refine (plus_any _ _ _ (by omega) (by omega) (by omega) (by omega)).mono ?_; rintro e w' ⟨rfl, rfl⟩))
  go_ret
  exact ⟨rfl, rfl⟩

set_option maxHeartbeats 400000 in
theorem fsub_impl (a b : Int) (w : World) (a0 : -9223372036854775808 ≤ a) (a1 : a ≤ 9223372036854775807) (b0 : -9223372036854775808 ≤ b) (b1 : b ≤ 9223372036854775807) :
    Calls Try.prog 17 #[.int .i64 a, .int .i64 b] w fun e w' => e = .returned (.int .i64 ((a - b) % 2147483647)) ∧ w = w' := by
  go_enter Try.func17, Try.ntmps17
  go_wp2_with (first | (go_at_call 43; refine (elemOf_any _ _ (by omega) (by omega)).mono ?_; rintro e w' ⟨rfl, rfl⟩) | (go_at_call 45; refine (minus_any _ _ _ (by omega) (by omega) (by omega) (by omega)).mono ?_; rintro e w' ⟨rfl, rfl⟩))
  go_ret
  exact ⟨rfl, rfl⟩

set_option maxHeartbeats 400000 in
theorem fmul_impl (a b : Int) (w : World) (a0 : -9223372036854775808 ≤ a) (a1 : a ≤ 9223372036854775807) (b0 : -9223372036854775808 ≤ b) (b1 : b ≤ 9223372036854775807) :
    Calls Try.prog 18 #[.int .i64 a, .int .i64 b] w fun e w' => e = .returned (.int .i64 (a * b % 2147483647)) ∧ w = w' := by
  go_enter Try.func18, Try.ntmps18
  go_wp2_with (first | (go_at_call 43; refine (elemOf_any _ _ (by omega) (by omega)).mono ?_; rintro e w' ⟨rfl, rfl⟩) | (go_at_call 46; refine (times_any _ _ _ (by omega) (by omega) (by omega) (by omega)).mono ?_; rintro e w' ⟨rfl, rfl⟩))
  go_ret
  exact ⟨ret_int (Int.mul_emod a b 2147483647).symm, rfl⟩

set_option maxHeartbeats 400000 in
theorem fsigned_impl_lo (a : Int) (w : World) (a0 : -9223372036854775808 ≤ a) (a1 : a ≤ 9223372036854775807) (h : a % 2147483647 ≤ 1073741823) :
    Calls Try.prog 25 #[.int .i64 a] w fun e w' => e = .returned (.int .i64 (a % 2147483647)) ∧ w = w' := by
  go_enter Try.func25, Try.ntmps25
  go_wp2_with (first | (go_at_call 43; refine (elemOf_any _ _ (by omega) (by omega)).mono ?_; rintro e w' ⟨rfl, rfl⟩) | (go_at_call 49; go_in))
  go_ret
  exact ⟨rfl, rfl⟩

set_option maxHeartbeats 400000 in
theorem fsigned_impl_hi (a : Int) (w : World) (a0 : -9223372036854775808 ≤ a) (a1 : a ≤ 9223372036854775807) (h : 1073741823 < a % 2147483647) :
    Calls Try.prog 25 #[.int .i64 a] w fun e w' => e = .returned (.int .i64 (a % 2147483647 - 2147483647)) ∧ w = w' := by
  go_enter Try.func25, Try.ntmps25
  go_wp2_with (first | (go_at_call 43; refine (elemOf_any _ _ (by omega) (by omega)).mono ?_; rintro e w' ⟨rfl, rfl⟩) | (go_at_call 49; go_in))
  go_ret
  exact ⟨rfl, rfl⟩

theorem fok_spec (n : Int) (w : World) :
    Calls Try.prog 29 #[.int .i64 n] w fun e w' => e = .returned (.bool (decide (0 ≤ n ∧ n < 2147483647))) ∧ w = w' := by
  by_cases h0 : 0 ≤ n
  · by_cases h1 : n < 2147483647
    all_goals
      go_enter Try.func29, Try.ntmps29
      go_wp2
      go_ret
      exact ⟨ret_bool (by simp; omega), rfl⟩
  · go_enter Try.func29, Try.ntmps29
    go_wp2
    go_ret
    exact ⟨ret_bool (by simp; omega), rfl⟩

set_option maxHeartbeats 400000 in
theorem fof_spec (n : Int) (w : World) (h0 : -9223372036854775808 ≤ n) (h1 : n ≤ 9223372036854775807) :
    Calls Try.prog 34 #[.int .i64 n] w fun e w' => e = .returned (.int .i64 (n % 2147483647)) ∧ w = w' := by
  obtain ⟨b0, b1⟩ := tmod_bd n
  by_cases h : n.tmod 2147483647 < 0
  · have hh := tmod_lo n h
    have H := Lib.hid hh; clear hh
    go_enter Try.func34, Try.ntmps34
    go_wp2
    go_ret
    exact ⟨ret_int H.out, rfl⟩
  · have hh := tmod_hi n h
    have H := Lib.hid hh; clear hh
    go_enter Try.func34, Try.ntmps34
    go_wp2
    go_ret
    exact ⟨ret_int H.out, rfl⟩

set_option maxHeartbeats 400000 in
theorem l1add_any (a b : Int) (w : World) (a0 : 0 ≤ a) (a1 : a < 2147483647) (b0 : 0 ≤ b) (b1 : b < 2147483647) :
    Calls Try.prog 54 #[.int .i64 a, .int .i64 b] w fun e w' => e = .returned (.int .i64 ((a + b) % 2147483647)) ∧ w = w' := by
  go_enter Try.func54, Try.ntmps54
  go_wp2
  go_ret
  exact ⟨rfl, rfl⟩

set_option maxHeartbeats 400000 in
theorem l1sub_any (a b : Int) (w : World) (a0 : 0 ≤ a) (a1 : a < 2147483647) (b0 : 0 ≤ b) (b1 : b < 2147483647) :
    Calls Try.prog 55 #[.int .i64 a, .int .i64 b] w fun e w' => e = .returned (.int .i64 ((a - b) % 2147483647)) ∧ w = w' := by
  go_enter Try.func55, Try.ntmps55
  go_wp2
  go_ret
  exact ⟨ret_int (by omega), rfl⟩

set_option maxHeartbeats 400000 in
theorem fadd_spec (a b : Int) (w : World) (a0 : -9223372036854775808 ≤ a) (a1 : a ≤ 9223372036854775807) (b0 : -9223372036854775808 ≤ b) (b1 : b ≤ 9223372036854775807) :
    Calls Try.prog 35 #[.int .i64 a, .int .i64 b] w fun e w' => e = .returned (.int .i64 ((a + b) % 2147483647)) ∧ w = w' := by
  go_enter Try.func35, Try.ntmps35
  go_wp2_with (first | (go_at_call 34; refine (fof_spec _ _ (by omega) (by omega)).mono ?_; rintro e w' ⟨rfl, rfl⟩) | (go_at_call 54; refine (l1add_any _ _ _ (by omega) (by omega) (by omega) (by omega)).mono ?_; rintro e w' ⟨rfl, rfl⟩))
  go_ret
  exact ⟨rfl, rfl⟩

set_option maxHeartbeats 400000 in
theorem fsub_spec (a b : Int) (w : World) (a0 : -9223372036854775808 ≤ a) (a1 : a ≤ 9223372036854775807) (b0 : -9223372036854775808 ≤ b) (b1 : b ≤ 9223372036854775807) :
    Calls Try.prog 36 #[.int .i64 a, .int .i64 b] w fun e w' => e = .returned (.int .i64 ((a - b) % 2147483647)) ∧ w = w' := by
  go_enter Try.func36, Try.ntmps36
  go_wp2_with (first | (go_at_call 34; refine (fof_spec _ _ (by omega) (by omega)).mono ?_; rintro e w' ⟨rfl, rfl⟩) | (go_at_call 55; refine (l1sub_any _ _ _ (by omega) (by omega) (by omega) (by omega)).mono ?_; rintro e w' ⟨rfl, rfl⟩))
  go_ret
  exact ⟨rfl, rfl⟩

set_option maxHeartbeats 400000 in
theorem fmul_spec (a b : Int) (w : World) (a0 : -9223372036854775808 ≤ a) (a1 : a ≤ 9223372036854775807) (b0 : -9223372036854775808 ≤ b) (b1 : b ≤ 9223372036854775807) :
    Calls Try.prog 37 #[.int .i64 a, .int .i64 b] w fun e w' => e = .returned (.int .i64 (a * b % 2147483647)) ∧ w = w' := by
  go_enter Try.func37, Try.ntmps37
  go_wp2_with (first | (go_at_call 34; refine (fof_spec _ _ (by omega) (by omega)).mono ?_; rintro e w' ⟨rfl, rfl⟩) | (go_at_call 56; refine (l1mul_any _ _ _ (by omega) (by omega) (by omega) (by omega)).mono ?_; rintro e w' ⟨rfl, rfl⟩))
  go_ret
  exact ⟨ret_int (Int.mul_emod a b 2147483647).symm, rfl⟩

set_option maxHeartbeats 400000 in
theorem fsigned_spec_lo (a : Int) (w : World) (a0 : -9223372036854775808 ≤ a) (a1 : a ≤ 9223372036854775807) (h : a % 2147483647 ≤ 1073741823) :
    Calls Try.prog 40 #[.int .i64 a] w fun e w' => e = .returned (.int .i64 (a % 2147483647)) ∧ w = w' := by
  go_enter Try.func40, Try.ntmps40
  go_wp2_with (go_at_call 34; refine (fof_spec _ _ (by omega) (by omega)).mono ?_; rintro e w' ⟨rfl, rfl⟩)
  go_ret
  exact ⟨rfl, rfl⟩

set_option maxHeartbeats 400000 in
theorem fsigned_spec_hi (a : Int) (w : World) (a0 : -9223372036854775808 ≤ a) (a1 : a ≤ 9223372036854775807) (h : 1073741823 < a % 2147483647) :
    Calls Try.prog 40 #[.int .i64 a] w fun e w' => e = .returned (.int .i64 (a % 2147483647 - 2147483647)) ∧ w = w' := by
  go_enter Try.func40, Try.ntmps40
  go_wp2_with (go_at_call 34; refine (fof_spec _ _ (by omega) (by omega)).mono ?_; rintro e w' ⟨rfl, rfl⟩)
  go_ret
  exact ⟨rfl, rfl⟩

set_option maxHeartbeats 1000000 in
theorem l1pow_any (a : Int) (n : Nat) (w : World) (a0 : 0 ≤ a) (a1 : a < 2147483647) (n1 : n ≤ 9223372036854775807) :
    Calls Try.prog 57 #[.int .i64 a, .int .i64 n] w fun e w' => e = .returned (.int .i64 (M.pw a n)) ∧ w = w' := by
  go_enter Try.func57, Try.ntmps57
  go_wp2
  go_loop [0, 1, 5] (fun x y z => ∃ (b : Int) (m : Nat) (r : Int), 0 ≤ b ∧ b < 2147483647 ∧ 0 ≤ r ∧ r < 2147483647 ∧ m ≤ n ∧ PowInv a n b m r ∧ x = .int .i64 b ∧ y = .int .i64 m ∧ z = .int .i64 r) (fun _ y _ => (intOf y).toNat)
  case atStart => exact ⟨a, n, 1, a0, a1, by omega, by omega, Nat.le_refl _, PowInv.start a n, rfl, rfl, rfl⟩
  case round =>
    obtain ⟨b, m, r, b0, b1, r0, r1, hm, hi, rfl, rfl, rfl⟩ := hrel
    by_cases h : 0 < m
    · by_cases ho : m % 2 = 1
      · have hi' := hi.odd ho
        have e1 := em_bd (r * b)
        have e2 := em_bd (b * b)
        have hb : ((m : Int) % 2 == 1) = true := by simp; omega
        go_wp2_with (go_at_call 56; refine (l1mul_any _ _ _ (by omega) (by omega) (by omega) (by omega)).mono ?_; rintro e w' ⟨rfl, rfl⟩)
        go_round
        case rel => exact ⟨_, m / 2, _, e2.1, e2.2, e1.1, e1.2, by omega, hi', rfl, by go_num, rfl⟩
        case measure => simp [intOf]; omega
      · have hi' := hi.even (by omega)
        have e2 := em_bd (b * b)
        have hb : ((m : Int) % 2 == 1) = false := by simp; omega
        go_wp2_with (go_at_call 56; refine (l1mul_any _ _ _ (by omega) (by omega) (by omega) (by omega)).mono ?_; rintro e w' ⟨rfl, rfl⟩)
        go_round
        case rel => exact ⟨_, m / 2, _, e2.1, e2.2, r0, r1, by omega, hi', rfl, by go_num, rfl⟩
        case measure => simp [intOf]; omega
    · obtain rfl : m = 0 := by omega
      go_wp2
      go_ret
      exact ⟨ret_int (hi.stop r0 r1), rfl⟩

/-- FPow and its model: 0 for an exponent below 0. -/
def fpow (a n : Int) : Int := if n < 0 then 0 else M.pw a n.toNat

theorem fpow_neg {a n : Int} (h : n < 0) : fpow a n = 0 := if_pos h
theorem fpow_nat (a : Int) (n : Nat) : fpow a n = M.pw a n := by unfold fpow; rw [if_neg (by omega), Int.toNat_natCast]

set_option maxHeartbeats 400000 in
theorem fpow_impl (a n : Int) (w : World) (a0 : -9223372036854775808 ≤ a) (a1 : a ≤ 9223372036854775807) (n1 : n ≤ 9223372036854775807) :
    Calls Try.prog 23 #[.int .i64 a, .int .i64 n] w fun e w' => e = .returned (.int .i64 (fpow a n)) ∧ w = w' := by
  by_cases h : n < 0
  · go_enter Try.func23, Try.ntmps23
    go_wp2
    go_ret
    exact ⟨ret_int (fpow_neg h).symm, rfl⟩
  · obtain ⟨m, rfl⟩ := Int.eq_ofNat_of_zero_le (by omega : 0 ≤ n)
    go_enter Try.func23, Try.ntmps23
    go_wp2_with (first | (go_at_call 43; refine (elemOf_any _ _ (by omega) (by omega)).mono ?_; rintro e w' ⟨rfl, rfl⟩) | (go_at_call 48; refine (power_any _ _ _ (by omega) (by omega) (by omega)).mono ?_; rintro e w' ⟨rfl, rfl⟩))
    go_ret
    exact ⟨ret_int (by rw [fpow_nat, M.pw_emod]), rfl⟩

set_option maxHeartbeats 400000 in
theorem fpow_spec (a n : Int) (w : World) (a0 : -9223372036854775808 ≤ a) (a1 : a ≤ 9223372036854775807) (n1 : n ≤ 9223372036854775807) :
    Calls Try.prog 38 #[.int .i64 a, .int .i64 n] w fun e w' => e = .returned (.int .i64 (fpow a n)) ∧ w = w' := by
  by_cases h : n < 0
  · go_enter Try.func38, Try.ntmps38
    go_wp2
    go_ret
    exact ⟨ret_int (fpow_neg h).symm, rfl⟩
  · obtain ⟨m, rfl⟩ := Int.eq_ofNat_of_zero_le (by omega : 0 ≤ n)
    go_enter Try.func38, Try.ntmps38
    go_wp2_with (first | (go_at_call 34; refine (fof_spec _ _ (by omega) (by omega)).mono ?_; rintro e w' ⟨rfl, rfl⟩) | (go_at_call 57; refine (l1pow_any _ _ _ (by omega) (by omega) (by omega)).mono ?_; rintro e w' ⟨rfl, rfl⟩))
    go_ret
    exact ⟨ret_int (by rw [fpow_nat, M.pw_emod]), rfl⟩

theorem inverse_any (a : Int) (w : World) (a0 : 0 ≤ a) (a1 : a < 2147483647) :
    Calls Try.prog 60 #[.int .i64 a] w fun e w' => e = .returned (.int .i64 (M.pw a 2147483645)) ∧ w = w' := by
  go_enter Try.func60, Try.ntmps60
  go_wp2_with (go_at_call 48; refine (power_any a 2147483645 _ (by omega) (by omega) (by omega)).mono ?_; rintro e w' ⟨rfl, rfl⟩)
  go_ret
  exact ⟨rfl, rfl⟩

theorem l1inv_any (a : Int) (w : World) (a0 : 0 ≤ a) (a1 : a < 2147483647) :
    Calls Try.prog 58 #[.int .i64 a] w fun e w' => e = .returned (.int .i64 (M.pw a 2147483645)) ∧ w = w' := by
  by_cases h : a = 0
  · have hn := M.pw_none a (by omega)
    have H := Lib.hid hn; clear hn
    have hb : (a == 0) = true := by simp [h]
    clear h
    go_enter Try.func58, Try.ntmps58
    go_wp2
    go_ret
    exact ⟨ret_int H.out.symm, rfl⟩
  · have hb : (a == 0) = false := by simp [h]
    clear h
    go_enter Try.func58, Try.ntmps58
    go_wp2_with (go_at_call 57; refine (l1pow_any a 2147483645 _ (by omega) (by omega) (by omega)).mono ?_; rintro e w' ⟨rfl, rfl⟩)
    go_ret
    exact ⟨rfl, rfl⟩

set_option maxHeartbeats 400000 in
theorem finv_spec (a : Int) (w : World) (a0 : -9223372036854775808 ≤ a) (a1 : a ≤ 9223372036854775807) :
    Calls Try.prog 39 #[.int .i64 a] w fun e w' => e = .returned (.int .i64 (M.pw a 2147483645)) ∧ w = w' := by
  go_enter Try.func39, Try.ntmps39
  go_wp2_with (first | (go_at_call 34; refine (fof_spec _ _ (by omega) (by omega)).mono ?_; rintro e w' ⟨rfl, rfl⟩) | (go_at_call 58; refine (l1inv_any _ _ (by omega) (by omega)).mono ?_; rintro e w' ⟨rfl, rfl⟩))
  go_ret
  exact ⟨ret_int (M.pw_emod _ _), rfl⟩

/-- The negation in the field; -1 for what is no number of the field. -/
def fneg (a : Int) : Int := if 0 ≤ a ∧ a < 2147483647 then (0 - a) % 2147483647 else -1

theorem fneg_impl (a : Int) (w : World) (a0 : -9223372036854775808 ≤ a) (a1 : a ≤ 9223372036854775807) :
    Calls Try.prog 28 #[.int .i64 a] w fun e w' => e = .returned (.int .i64 (fneg a)) ∧ w = w' := by
  by_cases h : 0 ≤ a ∧ a < 2147483647
  · have hd : decide (0 ≤ a ∧ a < 2147483647) = true := by simpa using h
    rw [show fneg a = (0 - a) % 2147483647 from if_pos h]
    obtain ⟨h1, h2⟩ := h
    go_enter Try.func28, Try.ntmps28
    go_wp2_with (first | (go_at_call 19; refine (fok_impl _ _).mono ?_; rw [hd]; rintro e w' ⟨rfl, rfl⟩) | (go_at_call 17; refine (fsub_impl _ _ _ (by omega) (by omega) (by omega) (by omega)).mono ?_; rintro e w' ⟨rfl, rfl⟩))
    go_ret
    exact ⟨ret_int (by omega), rfl⟩
  · have hd : decide (0 ≤ a ∧ a < 2147483647) = false := by simpa using h
    rw [show fneg a = -1 from if_neg h]
    clear h
    go_enter Try.func28, Try.ntmps28
    go_wp2_with (go_at_call 19; refine (fok_impl _ _).mono ?_; rw [hd]; rintro e w' ⟨rfl, rfl⟩)
    go_ret
    exact ⟨rfl, rfl⟩

theorem fneg_spec (a : Int) (w : World) (a0 : -9223372036854775808 ≤ a) (a1 : a ≤ 9223372036854775807) :
    Calls Try.prog 41 #[.int .i64 a] w fun e w' => e = .returned (.int .i64 (fneg a)) ∧ w = w' := by
  by_cases h : 0 ≤ a ∧ a < 2147483647
  · have hd : decide (0 ≤ a ∧ a < 2147483647) = true := by simpa using h
    rw [show fneg a = (0 - a) % 2147483647 from if_pos h]
    obtain ⟨h1, h2⟩ := h
    go_enter Try.func41, Try.ntmps41
    go_wp2_with (go_at_call 29; refine (fok_spec _ _).mono ?_; rw [hd]; rintro e w' ⟨rfl, rfl⟩)
    go_ret
    exact ⟨ret_int (by omega), rfl⟩
  · have hd : decide (0 ≤ a ∧ a < 2147483647) = false := by simpa using h
    rw [show fneg a = -1 from if_neg h]
    clear h
    go_enter Try.func41, Try.ntmps41
    go_wp2_with (go_at_call 29; refine (fok_spec _ _).mono ?_; rw [hd]; rintro e w' ⟨rfl, rfl⟩)
    go_ret
    exact ⟨rfl, rfl⟩
end Go.Proofs.Ytohngajjmlldjaa
