/- The exact laws of the inverse and the quotient; the laws on drawn numbers are in another text. -/
import Derived.Test.YtohngajjmlldjaaInv
namespace Go.Proofs.Ytohngajjmlldjaa
open Go.RowKit
set_option linter.unusedVariables false

set_option maxHeartbeats 400000 in
theorem law_FnExactFInv (a : Int) (w : World) (a0 : -9223372036854775808 ≤ a) (a1 : a ≤ 9223372036854775807) :
    Calls Try.prog 12 #[.int .i64 a] w fun e w' => e = .returned (.bool true) ∧ Below w.heap.size w w' := by
  go_enter Try.func12, Try.ntmps12
  go_wp2_with (first | (go_at_call 39; refine (finv_spec _ _ (by omega) (by omega)).mono ?_; rintro e w' ⟨rfl, rfl⟩) | (go_at_call 21; refine (finv_impl _ _ (by omega) (by omega)).mono ?_; rintro e w' ⟨rfl, hb⟩))
  go_ret
  exact ⟨rfl, hb⟩

/-- A quotient: -1 where one of the two is no number of the field. -/
def fdiv (a b : Int) : Int := if (0 ≤ a ∧ a < 2147483647) ∧ (0 ≤ b ∧ b < 2147483647) then a * M.pw b 2147483645 % 2147483647 else -1

set_option maxHeartbeats 800000 in
theorem fdiv_impl (a b : Int) (w : World) (a0 : -9223372036854775808 ≤ a) (a1 : a ≤ 9223372036854775807) (b0 : -9223372036854775808 ≤ b) (b1 : b ≤ 9223372036854775807) :
    Calls Try.prog 27 #[.int .i64 a, .int .i64 b] w fun e w' => e = .returned (.int .i64 (fdiv a b)) ∧ Below w.heap.size w w' := by
  by_cases h : (0 ≤ a ∧ a < 2147483647) ∧ (0 ≤ b ∧ b < 2147483647)
  · have da : decide (0 ≤ a ∧ a < 2147483647) = true := by simpa using h.1
    have db : decide (0 ≤ b ∧ b < 2147483647) = true := by simpa using h.2
    rw [show fdiv a b = a * M.pw b 2147483645 % 2147483647 from if_pos h]
    have DA := Lib.hid da
    have DB := Lib.hid db
    have p0 := M.pw_lo b 2147483645
    have p1 := M.pw_hi b 2147483645
    clear da db h
    go_enter Try.func27, Try.ntmps27
    go_wp2_with fail
    refine (fok_impl a _).mono ?_
    rw [DA.out]
    rintro e w1 ⟨rfl, rfl⟩
    go_wp2_with fail
    refine (fok_impl b _).mono ?_
    rw [DB.out]
    rintro e w1 ⟨rfl, rfl⟩
    go_wp2_with (first | (go_at_call 21; refine (finv_impl _ _ (by omega) (by omega)).mono ?_; rintro e w' ⟨rfl, hb⟩) | (go_at_call 18; refine (fmul_impl _ _ _ (by omega) (by omega) (by omega) (by omega)).mono ?_; rintro e w' ⟨rfl, rfl⟩))
    go_ret
    exact ⟨rfl, hb⟩
  · rw [show fdiv a b = -1 from if_neg h]
    by_cases ha : 0 ≤ a ∧ a < 2147483647
    · have da : decide (0 ≤ a ∧ a < 2147483647) = true := by simpa using ha
      have db : decide (0 ≤ b ∧ b < 2147483647) = false := by simp; omega
      have DA := Lib.hid da
      have DB := Lib.hid db
      clear da db h ha
      go_enter Try.func27, Try.ntmps27
      go_wp2_with fail
      refine (fok_impl a _).mono ?_
      rw [DA.out]
      rintro e w1 ⟨rfl, rfl⟩
      go_wp2_with fail
      refine (fok_impl b _).mono ?_
      rw [DB.out]
      rintro e w1 ⟨rfl, rfl⟩
      go_wp2
      go_ret
      exact ⟨rfl, Below.refl _ _⟩
    · have da : decide (0 ≤ a ∧ a < 2147483647) = false := by simpa using ha
      have DA := Lib.hid da
      clear da h ha
      go_enter Try.func27, Try.ntmps27
      go_wp2_with fail
      refine (fok_impl a _).mono ?_
      rw [DA.out]
      rintro e w1 ⟨rfl, rfl⟩
      go_wp2
      go_ret
      exact ⟨rfl, Below.refl _ _⟩
end Go.Proofs.Ytohngajjmlldjaa
