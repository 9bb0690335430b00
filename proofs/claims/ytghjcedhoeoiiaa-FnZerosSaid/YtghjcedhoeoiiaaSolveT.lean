/- What a hint tells: the model's l3told. -/
import Derived.Test.YtghjcedhoeoiiaaSolveP
import Derived.Lib.RabinKarpLaws
namespace Go.Proofs.Ytghjcedhoeoiiaa.L
open Go.RowKit Go.Proofs.Ytghjcedhoeoiiaa.S
set_option linter.unusedVariables false
set_option linter.unusedSimpArgs false

theorem bit_one {a : Int} (h0 : 0 ≤ a) (h1 : a < 9223372036854775808) : bits BinOp.and IntKind.i64 a 1 = a % 2 := by
  obtain ⟨n, rfl⟩ : ∃ n : Nat, a = (n : Int) := ⟨a.toNat, by omega⟩
  have h := Go.Proofs.and_one n (by omega)
  omega
set_option maxRecDepth 100000 in
set_option maxHeartbeats 1600000 in
theorem told_spec (o l h va vb) (x : HintC) (lim : Nat) (v : Value) (xs : List Int) (w : World) (ta : Terms o l h w va x.a) (tb : Terms o l h w vb x.b) (hw : h ≤ w.heap.size) (ti : Ints lim w v xs) (hl : lim ≤ w.heap.size) (ha : isAsg xs = true) (pI : Int) (HI : Hid (pI = M.pw (lval xs x.a) 2147483645)) (hx : hintW xs.length x = true) :
    Calls Try.prog 77 #[.agg #[.int .i64 x.kind, va, vb, .int .i64 x.k], v] w fun e w' => e = .returned (.int .i64 (toldV xs x)) ∧ Below w.heap.size w w' := by
  obtain ⟨aa, ka, rfl, laa, baa⟩ := ta.shape
  obtain ⟨ab, kb, rfl, lab, bab⟩ := tb.shape
  obtain ⟨ai, ki, rfl, lai, bai⟩ := ti.shape
  unfold hintW at hx
  rw [Bool.and_eq_true, Bool.and_eq_true] at hx
  obtain ⟨ga, gb, gk⟩ := hx
  have HA := Lib.hid ha
  have HGA := Lib.hid ga
  have HGB := Lib.hid gb
  have gk' := of_decide_eq_true gk
  obtain ⟨p0, p1⟩ := lval_bd xs x.a
  obtain ⟨q0, q1⟩ := lval_bd xs x.b
  have HV : Hid (toldV xs x = if x.kind = 0 then lval xs x.a * lval xs x.b % 2147483647 else if x.kind = 1 then lval xs x.a / 2 ^ x.k.toNat % 2 else if x.kind = 2 then pI else if lval xs x.b = 0 then 0 else lval xs x.a / lval xs x.b) := Lib.hid (by rw [HI.out]; unfold toldV; with_reducible rfl)
  obtain ⟨kd, hkd⟩ : ∃ kd, kd = x.kind := ⟨_, rfl⟩
  obtain ⟨kk, hkk⟩ : ∃ kk, kk = x.k := ⟨_, rfl⟩
  rw [← hkd, ← hkk] at gk' HV ⊢
  clear hkd hkk ha ga gb gk
  go_enter Try.func77, Try.ntmps77
  go_wp2_with fail
  refine name_call fun w1 hw1 => ?_
  have b1 : Below w.heap.size w w1 := by rw [hw1]; (repeat (with_reducible first | exact bR _ _ | assumption | refine bD ?_ | refine bN ?_ _ | refine bA ?_ _ | refine bS ?_ _))
  have z1 : w.heap.size + 1 ≤ w1.heap.size := by rw [hw1]; simp
  have c0 : w1.cell? ⟨w.heap.size, 0, none⟩ = some (.int .i64 kd) := by rw [hw1]; first | (simp; done) | go_simp
  have c1 : w1.cell? ⟨w.heap.size, 1, none⟩ = some (.slice aa x.a.length ka) := by rw [hw1]; first | (simp; done) | go_simp
  have c2 : w1.cell? ⟨w.heap.size, 2, none⟩ = some (.slice ab x.b.length kb) := by rw [hw1]; first | (simp; done) | go_simp
  have c3 : w1.cell? ⟨w.heap.size, 3, none⟩ = some (.int .i64 kk) := by rw [hw1]; first | (simp; done) | go_simp
  have ta1 := ta.keep b1 (by omega)
  have tb1 := tb.keep b1 (by omega)
  have ti1 := ti.keep b1 (by omega)
  clear hw1
  refine (l2val_any o l h _ x.a lim _ xs w1 ta1 (by omega) ti1 (by omega) HA.out HGA.out).mono ?_; rintro e w2 ⟨rfl, f2⟩
  have z2 := f2.size
  have d0 := cell_keep f2 c0
  have d1 := cell_keep f2 c1
  have d2 := cell_keep f2 c2
  have d3 := cell_keep f2 c3
  have tb2 := tb1.keep f2 (by omega)
  have ti2 := ti1.keep f2 (by omega)
  have b2 := b1.trans (f2.mono (by omega))
  obtain ⟨A, hA⟩ : ∃ A, A = lval xs x.a := ⟨_, rfl⟩
  rw [← hA] at HV HI p0 p1 ⊢
  have l2 : w.heap.size < w2.heap.size := World.block_lt_of_cell? _ _ d0
  clear c0 c1 c2 c3 ta1 tb1 ti1 ta tb ti hA HGA
  by_cases k0 : kd = 0
  · have HV0 : Hid (toldV xs x = A * lval xs x.b % 2147483647) := Lib.hid (by rw [HV.out, if_pos k0])
    subst k0
    clear HV
    go_wp2_with (first
      | (go_at_call 48; refine (l2val_any o l h _ x.b lim _ xs w2 tb2 (by omega) ti2 (by omega) HA.out HGB.out).mono ?_; rintro e w3 ⟨rfl, f3⟩)
      | (go_at_call 79; refine (l1mul_any A (lval xs x.b) w3 p0 p1 q0 q1).mono ?_; rintro e w4 ⟨rfl, rfl⟩))
    go_ret
    exact ⟨by rw [HV0.out]; rfl, b2.trans (f3.mono (by omega))⟩
  by_cases k1 : kd = 1
  · have HV0 : Hid (toldV xs x = A / 2 ^ kk.toNat % 2) := Lib.hid (by rw [HV.out, if_neg k0, if_pos k1])
    subst k1
    have hk : 0 ≤ kk ∧ kk ≤ 30 := by omega
    obtain ⟨n, rfl⟩ : ∃ n : Nat, kk = (n : Int) := ⟨kk.toNat, by omega⟩
    clear HV gk'
    go_wp2_with fail
    go_ret
    refine ⟨?_, b2⟩
    rw [HV0.out]
    have hp : 0 ≤ A / 2 ^ n ∧ A / 2 ^ n ≤ A := ⟨Int.ediv_nonneg p0 (Int.le_of_lt (Int.pow_pos (by omega))), Int.ediv_le_self _ p0⟩
    rw [Int.toNat_natCast, ← bit_one hp.1 (by omega)]
    rfl
  by_cases k2 : kd = 2
  · have HV0 : Hid (toldV xs x = pI) := Lib.hid (by rw [HV.out, if_neg k0, if_neg k1, if_pos k2])
    subst k2
    clear HV gk'
    go_wp2_with (go_at_call 96; refine (l1inv_any A _ (by omega) (by omega)).mono ?_; rw [← HI.out]; rintro e w3 ⟨rfl, rfl⟩)
    go_ret
    exact ⟨by rw [HV0.out]; rfl, b2⟩
  · have hk : kd = 3 := by omega
    have HV0 : Hid (toldV xs x = if lval xs x.b = 0 then 0 else A / lval xs x.b) := Lib.hid (by rw [HV.out, if_neg k0, if_neg k1, if_neg k2])
    subst hk
    clear HV gk'
    go_wp2_with fail
    refine (l2val_any o l h _ x.b lim _ xs w2 tb2 (by omega) ti2 (by omega) HA.out HGB.out).mono ?_; rintro e w3 ⟨rfl, f3⟩
    have z3 := f3.size
    have b3 := b2.trans (f3.mono (by omega))
    obtain ⟨Bv, hB⟩ : ∃ Bv, Bv = lval xs x.b := ⟨_, rfl⟩
    rw [← hB] at HV0 q0 q1 ⊢
    clear hB
    by_cases b0 : Bv = 0
    · have HV1 : Hid (toldV xs x = 0) := Lib.hid (by rw [HV0.out, if_pos b0])
      subst b0
      clear HV0
      go_wp2_with fail
      go_ret
      exact ⟨by rw [HV1.out]; rfl, b3⟩
    · go_wp2_with fail
      go_ret
      refine ⟨?_, b3⟩
      rw [HV0.out, if_neg b0]
      rfl
end Go.Proofs.Ytghjcedhoeoiiaa.L
