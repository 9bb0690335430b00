/- FnRots: eight drawn bits that are turned come back. -/
import Derived.Test.YtfkffadpnhfiaabRow
import Derived.Test.YtfkffadpnhfiaabRot
namespace Go.Proofs.Ytfkffadpnhfiaab.L
open Go.RowKit Go.Proofs.Ytfkffadpnhfiaab.S
set_option linter.unusedVariables false
set_option linter.unusedSimpArgs false

set_option maxRecDepth 100000 in
set_option maxHeartbeats 1600000 in
theorem drawRot8_any (a : Option Addr) (len cap : Nat) (w : World) (hr : Row w.heap.size w a len) :
    Calls Try.prog 26 #[.slice a len cap] w fun e w' => ∃ x k : Int, e = .returned (.tuple #[.int .i64 x, .int .i64 k]) ∧ Fits x ∧ -1 ≤ k ∧ k ≤ 9 ∧ Below w.heap.size w w' := by
  go_enter Try.func26, Try.ntmps26
  go_wp2_with fail
  refine (l1New_any a len cap w hr).mono ?_
  rintro e w1 ⟨rfl, cu1, be1, sz1⟩
  go_wp2_with fail
  refine (l1Byte_any w.heap.size w.heap.size a len cap w1 be1.size cu1).mono ?_
  rintro e w2 ⟨x, rfl, hx, cu2, gr2⟩
  have be2 := be1.trans (below_of_grown gr2 (Nat.le_refl _) be1.size)
  have hcs : w.heap.size < w2.heap.size := World.block_lt_of_cell? w2 ⟨w.heap.size, 0, none⟩ cu2.c0
  go_wp2_with fail
  have gr3 := grownBy.alloc (grownBy.refl w2 (some w.heap.size)) (.cells #[.int .i64 0, .int .i64 1, .int .i64 129, .int .i64 255, .int .i64 256, .int .i64 (-1), .int .i64 x] 3)
  have be3 := be2.trans (below_of_grown gr3 (Nat.le_refl _) be2.size)
  have cu3 := cu2.keep ((Below.refl w.heap.size w2).alloc be2.size (.cells #[.int .i64 0, .int .i64 1, .int .i64 129, .int .i64 255, .int .i64 256, .int .i64 (-1), .int .i64 x] 3)) (Below.heap_alloc _ _ _ hcs)
  have el := Elems.new (w := w2) (t := 3) (l := [0, 1, 129, 255, 256, -1, x]) (P := Fits) _ rfl (by
    intro v hv
    simp only [List.mem_cons, List.not_mem_nil, or_false] at hv
    unfold Fits
    omega)
  refine (l1PickInt_any w.heap.size w.heap.size a len cap w2.heap.size 0 7 7 Fits _ (by omega) (by omega) (by omega) (by simp) (by simp; omega) cu3 el).mono ?_
  rintro e w4 ⟨v, rfl, hv, cu4, gr4⟩
  have be4 := be3.trans (below_of_grown gr4 (Nat.le_refl _) be3.size)
  go_wp2_with fail
  refine (l1Below_any w.heap.size w.heap.size a len cap 11 w4 (by omega) be4.size cu4).mono ?_
  rintro e w5 ⟨k, rfl, ⟨k0, k1⟩, cu5, gr5⟩
  have be5 := be4.trans (below_of_grown gr5 (Nat.le_refl _) be4.size)
  have kw : IntKind.i64.wrap (k - 1) = k - 1 := by rw [IntKind.wrap_i64]; omega
  go_wp2_with fail
  go_ret2
  exact ⟨_, _, rfl, hv, by omega, by omega, be5⟩

theorem rot8_one : rot8 129 1 = 3 := by kernel_rfl
set_option maxRecDepth 100000 in
set_option maxHeartbeats 1600000 in
theorem law_FnRots (a : Option Addr) (len cap : Nat) (w : World) (hr : Row w.heap.size w a len) :
    Calls Try.prog 7 #[.slice a len cap] w fun e w' => e = .returned (.bool true) ∧ Below w.heap.size w w' := by
  have h1 := rot8_impl 129 1
  rw [rot8_one] at h1
  have H1 := Lib.hid h1; clear h1
  go_enter Try.func7, Try.ntmps7
  go_wp2_with fail
  refine (drawRot8_any a len cap w hr).mono ?_
  rintro e w1 ⟨x, k, rfl, hx, k0, k1, be1⟩
  go_wp2_with fail
  refine (rot8_impl x k w1).mono ?_; rintro e w2 ⟨rfl, f2⟩
  have be2 := be1.trans (f2.mono be1.size)
  have z2 := be2.size
  have fin : ∀ (h : rot8 x k = 0), True := fun _ => trivial
  clear fin
  by_cases h0 : x < 0
  · rw [rot8_out (.inl h0)]
    go_wp2_with fail
    refine (H1.out _).mono ?_; rintro e w3 ⟨rfl, f3⟩
    go_wp2_with fail
    go_ret
    exact ⟨rfl, be2.trans (f3.mono z2)⟩
  by_cases h1 : 255 < x
  · rw [rot8_out (.inr (.inl h1))]
    go_wp2_with fail
    refine (H1.out _).mono ?_; rintro e w3 ⟨rfl, f3⟩
    go_wp2_with fail
    go_ret
    exact ⟨rfl, be2.trans (f3.mono z2)⟩
  by_cases h2 : k < 0
  · rw [rot8_out (.inr (.inr (.inl h2)))]
    go_wp2_with fail
    refine (H1.out _).mono ?_; rintro e w3 ⟨rfl, f3⟩
    go_wp2_with fail
    go_ret
    exact ⟨rfl, be2.trans (f3.mono z2)⟩
  by_cases h3 : 8 < k
  · rw [rot8_out (.inr (.inr (.inr h3)))]
    go_wp2_with fail
    refine (H1.out _).mono ?_; rintro e w3 ⟨rfl, f3⟩
    go_wp2_with fail
    go_ret
    exact ⟨rfl, be2.trans (f3.mono z2)⟩
  obtain ⟨v0, v1, -, -, ev⟩ := rot_at (x := x) (k := k) (by omega) (by omega) (by omega) (by omega)
  have hb := rot8_impl (rotV x k) (8 - k)
  rw [rot8_in (x := rotV x k) (k := 8 - k) (by omega), ev] at hb
  have HB := Lib.hid hb; clear hb ev
  rw [rot8_in (by omega)]
  generalize rotV x k = y at *
  have kw : IntKind.i64.wrap (8 - k) = 8 - k := by rw [IntKind.wrap_i64]; omega
  have y2 : y < 256 := by omega
  go_wp2_with fail
  refine (HB.out _).mono ?_; rintro e w3 ⟨rfl, f3⟩
  have be3 := be2.trans (f3.mono z2)
  have z3 := be3.size
  go_wp2_with fail
  refine (H1.out _).mono ?_; rintro e w4 ⟨rfl, f4⟩
  go_wp2_with fail
  go_ret
  exact ⟨rfl, be3.trans (f4.mono z3)⟩
end Go.Proofs.Ytfkffadpnhfiaab.L
