/- Steps of the mix on numbers: the program's and the model's. -/
import Derived.Test.YtldeckiflghpcaaMixB
import Derived.Deep.RegionHeld3
namespace Go.Proofs.Ytldeckiflghpcaa.L
open Go.RowKit Go.Proofs.Ytldeckiflghpcaa.S
set_option linter.unusedVariables false
set_option linter.unusedSimpArgs false

theorem Nums.four {w0 : Nat} (w : World) (t : TypeId) (hw : w0 ≤ w.heap.size) {a b c d : Int} (ha : isB a) (hb : isB b) (hc : isB c) (hd : isB d) :
    Nums true w0 (w.alloc (.cells #[.int .i64 a, .int .i64 b, .int .i64 c, .int .i64 d] t)).heap.size (w.alloc (.cells #[.int .i64 a, .int .i64 b, .int .i64 c, .int .i64 d] t)) (.slice (some ⟨w.heap.size, 0, none⟩) 4 4) [a, b, c, d] := by
  refine ⟨some ⟨w.heap.size, 0, none⟩, 4, rfl, by simp, by omega, ?_, .inr ⟨w.heap.size, 0, rfl, hw, by simp, fun _ j => by simp, ?_⟩⟩
  · intro x hx
    simp only [List.mem_cons, List.not_mem_nil, or_false] at hx
    rcases hx with rfl | rfl | rfl | rfl
    · exact isB_fits ha
    · exact isB_fits hb
    · exact isB_fits hc
    · exact isB_fits hd
  · intro j x hj
    match j, hj with
    | 0, hj => simp at hj; subst hj; simp
    | 1, hj => simp at hj; subst hj; simp
    | 2, hj => simp at hj; subst hj; simp
    | 3, hj => simp at hj; subst hj; simp
    | j + 4, hj => simp at hj

set_option maxRecDepth 100000 in
set_option maxHeartbeats 1600000 in
theorem l5step_any (lim : Nat) (v : Value) (h0 h1 h2 h3 m : Int) (w : World) (t : Ints lim w v [h0, h1, h2, h3]) (b0 : isB h0) (b1 : isB h1) (b2 : isB h2) (b3 : isB h3) (bm : isB m) :
    Calls Try.prog 35 #[v, .int .i64 m] w fun e w' => ∃ u, e = .returned u ∧ Below w.heap.size w w' ∧ Nums true w.heap.size w'.heap.size w' u [stB h0 h1 h2 h3 m, stC h0 h2 h3 m, stD h0 h3 m, stA h0 m] := by
  obtain ⟨a, ca, rfl, la, ba⟩ := t.shape
  obtain ⟨b, off, x, rfl, l0, c0, e0, f0⟩ := t.at (k := 0) (by simp)
  obtain ⟨b', off', x1, e', l1, c1, e1, f1⟩ := t.at (k := 1) (by simp)
  simp only [Option.some.injEq, Addr.mk.injEq, and_true] at e'; obtain ⟨rfl, rfl⟩ := e'
  obtain ⟨b', off', x2, e', l2, c2, e2, f2⟩ := t.at (k := 2) (by simp)
  simp only [Option.some.injEq, Addr.mk.injEq, and_true] at e'; obtain ⟨rfl, rfl⟩ := e'
  obtain ⟨b', off', x3, e', l3, c3, e3, f3⟩ := t.at (k := 3) (by simp)
  simp only [Option.some.injEq, Addr.mk.injEq, and_true] at e'; obtain ⟨rfl, rfl⟩ := e'
  rw [Nat.add_zero] at c0
  simp at e0 e1 e2 e3
  subst e0 e1 e2 e3
  have A := stA_B b0 bm
  have D := stD_B b0 b3 bm
  have C := stC_B b0 b2 b3 bm
  have B := stB_B b0 b1 b2 b3 bm
  have xa := xr_at b3 A
  have xc := xr_at b1 C
  have la4 : (4 : Int) ≤ ca := by simp at la; omega
  have wa : IntKind.i64.wrap (h0 + m) = h0 + m := by rw [IntKind.wrap_i64]; unfold isB at *; omega
  have wc : IntKind.i64.wrap (h2 + stD h0 h3 m) = h2 + stD h0 h3 m := by rw [IntKind.wrap_i64]; unfold isB at *; omega
  have hb := World.block_lt_of_cell? _ _ c0
  have R1 : ∀ w, Calls Try.prog 31 #[.int .i64 (xr h3 (stA h0 m)), .int .i64 3] w fun e w' => e = .returned (.int .i64 (stD h0 h3 m)) ∧ Below w.heap.size w w' := fun w => l5rot_any _ 3 xa.1 xa.2 (by omega) (by omega) w
  have R2 : ∀ w, Calls Try.prog 31 #[.int .i64 (xr h1 (stC h0 h2 h3 m)), .int .i64 5] w fun e w' => e = .returned (.int .i64 (stB h0 h1 h2 h3 m)) ∧ Below w.heap.size w w' := fun w => l5rot_any _ 5 xc.1 xc.2 (by omega) (by omega) w
  have H1 := Lib.hid R1
  have H2 := Lib.hid R2
  clear R1 R2 xa xc t
  go_enter Try.func35, Try.ntmps35
  go_wp2_with fail
  refine (H1.out _).mono ?_; rintro e w1 ⟨rfl, f1⟩
  have d1 := ck f1 c1
  have d2 := ck f1 c2
  clear c0 c1 c2 c3
  go_wp2_with fail
  refine (H2.out _).mono ?_; rintro e w2 ⟨rfl, f2⟩
  go_wp2_with fail
  go_ret
  have z1 := f1.size
  have z2 := f2.size
  have b2 : Below w.heap.size w w2 := f1.trans (f2.mono z1)
  exact ⟨_, rfl, by (repeat (with_reducible first | exact bR _ _ | assumption | refine bD ?_ | refine bN ?_ _ | refine bA ?_ _ | refine bS ?_ _)), Nums.four w2 _ (by omega) B C D A⟩
end Go.Proofs.Ytldeckiflghpcaa.L
