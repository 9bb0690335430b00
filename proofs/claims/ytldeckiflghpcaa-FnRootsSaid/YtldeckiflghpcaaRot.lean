/- Rotations of eight bits: the program's and the model's. -/
import Derived.Test.YtldeckiflghpcaaB1
import Derived.BigQuiet
import Derived.Deep.QuietTactic
namespace Go.Proofs.Ytldeckiflghpcaa.L
open Go.RowKit Go.Proofs.Ytldeckiflghpcaa.S
set_option linter.unusedVariables false
set_option linter.unusedSimpArgs false

def rotE (x k : Int) : Int := bits BinOp.or IntKind.i64 (wrap64 (x * 2 ^ k.toNat)) (x / 2 ^ (8 - k).toNat)
def rotV (x k : Int) : Int := bits BinOp.and IntKind.i64 (rotE x k) 255
theorem rot_facts : ((List.range 256).all fun x => (List.range 9).all fun k => decide (0 ≤ rotV x k ∧ rotV x k ≤ 255 ∧ 0 ≤ rotE x k ∧ Int.tmod (rotE x k) 256 = rotV x k ∧ rotV (rotV x k) (8 - k) = x)) = true := by kernel_rfl
theorem rot_at {x k : Int} (x0 : 0 ≤ x) (x1 : x ≤ 255) (k0 : 0 ≤ k) (k1 : k ≤ 8) : 0 ≤ rotV x k ∧ rotV x k ≤ 255 ∧ 0 ≤ rotE x k ∧ Int.tmod (rotE x k) 256 = rotV x k ∧ rotV (rotV x k) (8 - k) = x := by
  have h := rot_facts
  simp only [List.all_eq_true, List.mem_range, decide_eq_true_eq] at h
  have := h x.toNat (by omega) k.toNat (by omega)
  rw [show ((x.toNat : Nat) : Int) = x from by omega, show ((k.toNat : Nat) : Int) = k from by omega] at this
  exact this

set_option maxRecDepth 100000 in
theorem l5rot_any (x k : Int) (x0 : 0 ≤ x) (x1 : x ≤ 255) (k0 : 0 ≤ k) (k1 : k ≤ 8) (w : World) :
    Calls Try.prog 31 #[.int .i64 x, .int .i64 k] w fun e w' => e = .returned (.int .i64 (rotV x k)) ∧ Below w.heap.size w w' := by
  have s1 : (0 : Int) ≤ 8 - k := by omega
  have s2 : IntKind.i64.wrap (8 - k) = 8 - k := by rw [IntKind.wrap_i64]; omega
  go_enter Try.func31, Try.ntmps31
  go_wp2_with fail
  go_quiet (fail)
  go_wp2_with fail
  go_ret
  exact ⟨rfl, bdrewN (Below.refl _ _) _⟩

set_option maxRecDepth 100000 in
theorem rotated_any (r : Value) (x k : Int) (x0 : 0 ≤ x) (x1 : x ≤ 255) (k0 : 0 ≤ k) (k1 : k ≤ 8) (w : World) :
    Calls Try.prog 33 #[.agg #[], .int .i64 x, .int .i64 k] w fun e w' => e = .returned (.int .i64 (rotV x k)) ∧ Below w.heap.size w w' := by
  have s1 : (0 : Int) ≤ 8 - k := by omega
  have s2 : IntKind.i64.wrap (8 - k) = 8 - k := by rw [IntKind.wrap_i64]; omega
  obtain ⟨v0, v1, e0, ev, -⟩ := rot_at x0 x1 k0 k1
  go_enter Try.func33, Try.ntmps33
  go_wp2_with fail
  go_quiet (fail)
  go_wp2_with fail
  go_ret
  exact ⟨congrArg (fun z => Ending.returned (.int .i64 z)) ev, bdrewN (by (repeat (with_reducible first | exact bR _ _ | assumption | refine bD ?_ | refine bN ?_ _ | refine bA ?_ _ | refine bS ?_ _))) _⟩

theorem isByte_any (x : Int) (w : World) : Calls Try.prog 32 #[.int .i64 x] w fun e w' => e = .returned (.bool (decide (0 ≤ x ∧ x ≤ 255))) ∧ Below w.heap.size w w' := by
  by_cases h0 : 0 ≤ x
  · go_enter Try.func32, Try.ntmps32
    go_wp2_with fail
    go_ret
    exact ⟨by simp [h0], Below.refl _ _⟩
  · go_enter Try.func32, Try.ntmps32
    go_wp2_with fail
    go_ret
    have hn : (decide (0 ≤ x) && decide (x ≤ 255)) = false := by simp; omega
    exact ⟨by rw [hn]; rfl, Below.refl _ _⟩

def rot8 (x k : Int) : Int := if x < 0 ∨ 255 < x ∨ k < 0 ∨ 8 < k then 0 else rotV x k
theorem rot8_in {x k : Int} (h : ¬ (x < 0 ∨ 255 < x ∨ k < 0 ∨ 8 < k)) : rot8 x k = rotV x k := if_neg h
theorem rot8_out {x k : Int} (h : x < 0 ∨ 255 < x ∨ k < 0 ∨ 8 < k) : rot8 x k = 0 := if_pos h
theorem rot8_spec (x k : Int) (w : World) : Calls Try.prog 10 #[.int .i64 x, .int .i64 k] w fun e w' => e = .returned (.int .i64 (rot8 x k)) ∧ Below w.heap.size w w' := by
  by_cases h0 : x < 0
  · rw [rot8_out (.inl h0)]
    go_enter Try.func10, Try.ntmps10
    go_wp2_with fail
    go_ret
    exact ⟨rfl, Below.refl _ _⟩
  by_cases h1 : 255 < x
  · rw [rot8_out (.inr (.inl h1))]
    go_enter Try.func10, Try.ntmps10
    go_wp2_with fail
    go_ret
    exact ⟨rfl, Below.refl _ _⟩
  by_cases h2 : k < 0
  · rw [rot8_out (.inr (.inr (.inl h2)))]
    go_enter Try.func10, Try.ntmps10
    go_wp2_with fail
    go_ret
    exact ⟨rfl, Below.refl _ _⟩
  by_cases h3 : 8 < k
  · rw [rot8_out (.inr (.inr (.inr h3)))]
    go_enter Try.func10, Try.ntmps10
    go_wp2_with fail
    go_ret
    exact ⟨rfl, Below.refl _ _⟩
  rw [rot8_in (by omega)]
  go_enter Try.func10, Try.ntmps10
  go_wp2_with fail
  refine (l5rot_any x k (by omega) (by omega) (by omega) (by omega) _).mono ?_; rintro e w1 ⟨rfl, f1⟩
  go_wp2_with fail
  go_ret
  exact ⟨rfl, f1⟩
theorem rot8_impl (x k : Int) (w : World) : Calls Try.prog 11 #[.int .i64 x, .int .i64 k] w fun e w' => e = .returned (.int .i64 (rot8 x k)) ∧ Below w.heap.size w w' := by
  have hB := isByte_any x
  by_cases h0 : 0 ≤ x ∧ x ≤ 255
  case' neg =>
    rw [decide_eq_false h0] at hB
    have HB := Lib.hid hB; clear hB
    rw [rot8_out (by omega)]
    go_enter Try.func11, Try.ntmps11
    go_wp2_with fail
    refine (HB.out _).mono ?_; rintro e w1 ⟨rfl, f1⟩
    go_wp2_with fail
    go_ret
    exact ⟨rfl, f1⟩
  rw [decide_eq_true h0] at hB
  have HB := Lib.hid hB; clear hB
  by_cases h2 : k < 0
  · rw [rot8_out (.inr (.inr (.inl h2)))]
    go_enter Try.func11, Try.ntmps11
    go_wp2_with fail
    refine (HB.out _).mono ?_; rintro e w1 ⟨rfl, f1⟩
    go_wp2_with fail
    go_ret
    exact ⟨rfl, f1⟩
  by_cases h3 : 8 < k
  · rw [rot8_out (.inr (.inr (.inr h3)))]
    go_enter Try.func11, Try.ntmps11
    go_wp2_with fail
    refine (HB.out _).mono ?_; rintro e w1 ⟨rfl, f1⟩
    go_wp2_with fail
    go_ret
    exact ⟨rfl, f1⟩
  rw [rot8_in (by omega)]
  go_enter Try.func11, Try.ntmps11
  go_wp2_with fail
  refine (HB.out _).mono ?_; rintro e w1 ⟨rfl, f1⟩
  go_wp2_with fail
  refine (rotated_any (.int .i64 0) x k (by omega) (by omega) (by omega) (by omega) _).mono ?_; rintro e w2 ⟨rfl, f2⟩
  go_wp2_with fail
  go_ret
  exact ⟨rfl, f1.trans (f2.mono f1.size)⟩
theorem law_FnExactRot8 (x k : Int) (w : World) : Calls Try.prog 3 #[.int .i64 x, .int .i64 k] w fun e w' => e = .returned (.bool true) ∧ Below w.heap.size w w' := by
  go_enter Try.func3, Try.ntmps3
  go_wp2_with fail
  refine (rot8_spec x k _).mono ?_; rintro e w1 ⟨rfl, f1⟩
  go_wp2_with fail
  refine (rot8_impl x k _).mono ?_; rintro e w2 ⟨rfl, f2⟩
  go_wp2_with fail
  go_ret
  exact ⟨rfl, f1.trans (f2.mono f1.size)⟩
end Go.Proofs.Ytldeckiflghpcaa.L
