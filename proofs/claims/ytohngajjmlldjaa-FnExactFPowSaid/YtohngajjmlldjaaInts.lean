/- The exact laws of layer 1 over numbers: what the program returns is what the model returns. -/
import Derived.Test.YtohngajjmlldjaaField
namespace Go.Proofs.Ytohngajjmlldjaa
open Go.RowKit
set_option linter.unusedVariables false

set_option maxHeartbeats 400000 in
theorem law_FnExactFOk (a : Int) (w : World) (a0 : -9223372036854775808 ≤ a) (a1 : a ≤ 9223372036854775807) :
    Calls Try.prog 6 #[.int .i64 a] w fun e w' => e = .returned (.bool true) ∧ w = w' := by
  go_enter Try.func6, Try.ntmps6
  go_wp2_with (first | (go_at_call 29; refine (fok_spec _ _).mono ?_; rintro e w' ⟨rfl, rfl⟩) | (go_at_call 19; refine (fok_impl _ _).mono ?_; rintro e w' ⟨rfl, rfl⟩))
  go_ret
  exact ⟨rfl, rfl⟩

set_option maxHeartbeats 400000 in
theorem law_FnExactFOf (a : Int) (w : World) (a0 : -9223372036854775808 ≤ a) (a1 : a ≤ 9223372036854775807) :
    Calls Try.prog 7 #[.int .i64 a] w fun e w' => e = .returned (.bool true) ∧ w = w' := by
  go_enter Try.func7, Try.ntmps7
  go_wp2_with (first | (go_at_call 34; refine (fof_spec _ _ (by omega) (by omega) ).mono ?_; rintro e w' ⟨rfl, rfl⟩) | (go_at_call 20; refine (fof_impl _ _ (by omega) (by omega) ).mono ?_; rintro e w' ⟨rfl, rfl⟩))
  go_ret
  exact ⟨rfl, rfl⟩

set_option maxHeartbeats 400000 in
theorem law_FnExactFAdd (a b : Int) (w : World) (a0 : -9223372036854775808 ≤ a) (a1 : a ≤ 9223372036854775807) (b0 : -9223372036854775808 ≤ b) (b1 : b ≤ 9223372036854775807) :
    Calls Try.prog 8 #[.int .i64 a, .int .i64 b] w fun e w' => e = .returned (.bool true) ∧ w = w' := by
  go_enter Try.func8, Try.ntmps8
  go_wp2_with (first | (go_at_call 35; refine (fadd_spec _ _ _ (by omega) (by omega) (by omega) (by omega) ).mono ?_; rintro e w' ⟨rfl, rfl⟩) | (go_at_call 16; refine (fadd_impl _ _ _ (by omega) (by omega) (by omega) (by omega) ).mono ?_; rintro e w' ⟨rfl, rfl⟩))
  go_ret
  exact ⟨rfl, rfl⟩

set_option maxHeartbeats 400000 in
theorem law_FnExactFSub (a b : Int) (w : World) (a0 : -9223372036854775808 ≤ a) (a1 : a ≤ 9223372036854775807) (b0 : -9223372036854775808 ≤ b) (b1 : b ≤ 9223372036854775807) :
    Calls Try.prog 9 #[.int .i64 a, .int .i64 b] w fun e w' => e = .returned (.bool true) ∧ w = w' := by
  go_enter Try.func9, Try.ntmps9
  go_wp2_with (first | (go_at_call 36; refine (fsub_spec _ _ _ (by omega) (by omega) (by omega) (by omega) ).mono ?_; rintro e w' ⟨rfl, rfl⟩) | (go_at_call 17; refine (fsub_impl _ _ _ (by omega) (by omega) (by omega) (by omega) ).mono ?_; rintro e w' ⟨rfl, rfl⟩))
  go_ret
  exact ⟨rfl, rfl⟩

set_option maxHeartbeats 400000 in
theorem law_FnExactFMul (a b : Int) (w : World) (a0 : -9223372036854775808 ≤ a) (a1 : a ≤ 9223372036854775807) (b0 : -9223372036854775808 ≤ b) (b1 : b ≤ 9223372036854775807) :
    Calls Try.prog 10 #[.int .i64 a, .int .i64 b] w fun e w' => e = .returned (.bool true) ∧ w = w' := by
  go_enter Try.func10, Try.ntmps10
  go_wp2_with (first | (go_at_call 37; refine (fmul_spec _ _ _ (by omega) (by omega) (by omega) (by omega) ).mono ?_; rintro e w' ⟨rfl, rfl⟩) | (go_at_call 18; refine (fmul_impl _ _ _ (by omega) (by omega) (by omega) (by omega) ).mono ?_; rintro e w' ⟨rfl, rfl⟩))
  go_ret
  exact ⟨rfl, rfl⟩

set_option maxHeartbeats 400000 in
theorem law_FnExactFPow (a b : Int) (w : World) (a0 : -9223372036854775808 ≤ a) (a1 : a ≤ 9223372036854775807) (b0 : -9223372036854775808 ≤ b) (b1 : b ≤ 9223372036854775807) :
    Calls Try.prog 11 #[.int .i64 a, .int .i64 b] w fun e w' => e = .returned (.bool true) ∧ w = w' := by
  go_enter Try.func11, Try.ntmps11
  go_wp2_with (first | (go_at_call 38; refine (fpow_spec _ _ _ (by omega) (by omega) (by omega) ).mono ?_; rintro e w' ⟨rfl, rfl⟩) | (go_at_call 23; refine (fpow_impl _ _ _ (by omega) (by omega) (by omega) ).mono ?_; rintro e w' ⟨rfl, rfl⟩))
  go_ret
  exact ⟨rfl, rfl⟩

set_option maxHeartbeats 400000 in
theorem law_FnExactFNeg (a : Int) (w : World) (a0 : -9223372036854775808 ≤ a) (a1 : a ≤ 9223372036854775807) :
    Calls Try.prog 14 #[.int .i64 a] w fun e w' => e = .returned (.bool true) ∧ w = w' := by
  go_enter Try.func14, Try.ntmps14
  go_wp2_with (first | (go_at_call 41; refine (fneg_spec _ _ (by omega) (by omega) ).mono ?_; rintro e w' ⟨rfl, rfl⟩) | (go_at_call 28; refine (fneg_impl _ _ (by omega) (by omega) ).mono ?_; rintro e w' ⟨rfl, rfl⟩))
  go_ret
  exact ⟨rfl, rfl⟩

set_option maxHeartbeats 400000 in
theorem law_FnExactFSigned_lo (a : Int) (w : World) (a0 : -9223372036854775808 ≤ a) (a1 : a ≤ 9223372036854775807) (h : a % 2147483647 ≤ 1073741823) :
    Calls Try.prog 13 #[.int .i64 a] w fun e w' => e = .returned (.bool true) ∧ w = w' := by
  go_enter Try.func13, Try.ntmps13
  go_wp2_with (first | (go_at_call 40; refine (fsigned_spec_lo _ _ (by omega) (by omega) (by omega) ).mono ?_; rintro e w' ⟨rfl, rfl⟩) | (go_at_call 25; refine (fsigned_impl_lo _ _ (by omega) (by omega) (by omega) ).mono ?_; rintro e w' ⟨rfl, rfl⟩))
  go_ret
  exact ⟨rfl, rfl⟩

set_option maxHeartbeats 400000 in
theorem law_FnExactFSigned_hi (a : Int) (w : World) (a0 : -9223372036854775808 ≤ a) (a1 : a ≤ 9223372036854775807) (h : 1073741823 < a % 2147483647) :
    Calls Try.prog 13 #[.int .i64 a] w fun e w' => e = .returned (.bool true) ∧ w = w' := by
  go_enter Try.func13, Try.ntmps13
  go_wp2_with (first | (go_at_call 40; refine (fsigned_spec_hi _ _ (by omega) (by omega) (by omega) ).mono ?_; rintro e w' ⟨rfl, rfl⟩) | (go_at_call 25; refine (fsigned_impl_hi _ _ (by omega) (by omega) (by omega) ).mono ?_; rintro e w' ⟨rfl, rfl⟩))
  go_ret
  exact ⟨rfl, rfl⟩

theorem law_FnExactFSigned (a : Int) (w : World) (a0 : -9223372036854775808 ≤ a) (a1 : a ≤ 9223372036854775807) :
    Calls Try.prog 13 #[.int .i64 a] w fun e w' => e = .returned (.bool true) ∧ w = w' := by
  by_cases h : a % 2147483647 ≤ 1073741823
  · exact law_FnExactFSigned_lo a w a0 a1 h
  · exact law_FnExactFSigned_hi a w a0 a1 (by omega)
end Go.Proofs.Ytohngajjmlldjaa
