/- FnBools: exactly 0 and 1 satisfy AddBool; exactly equal values satisfy AddEq. -/
import Derived.Test.YtcenijdaacbgpaaB25
import Derived.Test.YtcenijdaacbgpaaRgnB
import Derived.Test.YtcenijdaacbgpaaB19
import Derived.Test.YtcenijdaacbgpaaB31
import Derived.Deep.DeepCutAuto
namespace Go.Proofs.Ytcenijdaacbgpaa.L
open Go.RowKit Go.Proofs.Ytcenijdaacbgpaa.S
set_option linter.unusedVariables false
set_option linter.unusedSimpArgs false

theorem field_any (n : Int) (w : World) (h : Fits n) : Calls Try.prog 8 #[.int .i64 n] w fun e w' => e = .returned (.int .i64 (n % 2147483647)) ∧ w = w' := by
  have FO := fof_spec n w h.1 h.2
  have HF := Lib.hid FO
  clear FO
  go_enter Try.func8, Try.ntmps8
  go_wp2_with fail
  refine (HF.out).mono ?_; rintro e w1 ⟨rfl, rfl⟩
  go_wp2_with fail
  go_ret
  exact ⟨rfl, rfl⟩
theorem ints2 {w : World} {b : Nat} {x y : Int} (fx : Fits x) (fy : Fits y) (c0 : w.cell? ⟨b, 0, none⟩ = some (.int .i64 x)) (c1 : w.cell? ⟨b, 1, none⟩ = some (.int .i64 y)) (hb : b < w.heap.size) : Ints w.heap.size w (.slice (some ⟨b, 0, none⟩) 2 2) [x, y] := by
  refine ⟨_, _, rfl, by simp, by omega, fun z hz => ?_, .inr ⟨b, 0, rfl, hb, fun j z hj => ?_⟩⟩
  · simp only [List.mem_cons, List.not_mem_nil, or_false] at hz
    rcases hz with rfl | rfl <;> assumption
  · match j, hj with
    | 0, hj => simp at hj; subst hj; exact c0
    | 1, hj => simp at hj; subst hj; exact c1
end Go.Proofs.Ytcenijdaacbgpaa.L
