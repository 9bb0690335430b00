/- Sums of lists and dot products: the model's functions; the exact laws. -/
import Derived.Test.YtohngajjmlldjaaSum
import Derived.Test.YtohngajjmlldjaaToInts
import Derived.Test.YtohngajjmlldjaaInvLaws
namespace Go.Proofs.Ytohngajjmlldjaa.S
open Go.RowKit
set_option linter.unusedVariables false

theorem fok_yes_spec (n : Int) (w : World) (h0 : 0 ≤ n) (h1 : n < 2147483647) :
    Calls Try.prog 29 #[.int .i64 n] w fun e w' => e = .returned (.bool true) ∧ w = w' :=
  (fok_spec n w).mono fun e w' ⟨he, hw⟩ => ⟨by rw [he]; exact ret_bool (by simp; omega), hw⟩
theorem fok_no_spec (n : Int) (w : World) (h : ¬ fld n) :
    Calls Try.prog 29 #[.int .i64 n] w fun e w' => e = .returned (.bool false) ∧ w = w' :=
  (fok_spec n w).mono fun e w' ⟨he, hw⟩ => ⟨by rw [he]; exact ret_bool (by unfold fld at h; simp; omega), hw⟩

theorem dec_self (xs : List Int) : decide (xs = xs) = true := decide_eq_true rfl

end Go.Proofs.Ytohngajjmlldjaa.S
