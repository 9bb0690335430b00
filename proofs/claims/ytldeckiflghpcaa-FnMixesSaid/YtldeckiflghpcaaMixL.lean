/- FnMixes: what a drawn mix consists of; a drawn step goes back. -/
import Derived.Test.YtldeckiflghpcaaMixD
import Derived.Test.YtldeckiflghpcaaMixR
import Derived.Test.YtldeckiflghpcaaRow
namespace Go.Proofs.Ytldeckiflghpcaa.L
open Go.RowKit Go.Proofs.Ytldeckiflghpcaa.S
set_option linter.unusedVariables false
set_option linter.unusedSimpArgs false

theorem and_facts : ((List.range 766).all fun n => decide (bits BinOp.and IntKind.i64 ((n : Int) - 255) 255 = ((n : Int) - 255) % 256)) = true := by kernel_rfl
theorem and_at {x : Int} (h0 : -255 ≤ x) (h1 : x ≤ 510) : bits BinOp.and IntKind.i64 x 255 = x % 256 := by
  have h := and_facts
  simp only [List.all_eq_true, List.mem_range, decide_eq_true_eq] at h
  have := h (x + 255).toNat (by omega)
  rw [show (((x + 255).toNat : Nat) : Int) = x + 255 from by omega, show x + 255 - 255 = x from by omega] at this
  exact this
theorem sm_back {a b : Int} (ha : isB a) (hb : isB b) : bits BinOp.and IntKind.i64 (sm a b - b) 255 = a := by
  obtain ⟨a0, a1⟩ := ha
  obtain ⟨b0, b1⟩ := hb
  have e : sm a b = (a + b) % 256 := and_at (by omega) (by omega)
  rw [e, and_at (by omega) (by omega)]
  omega
theorem wrap_toNat (x : BitVec 64) : IntKind.i64.wrap (x.toNat : Int) = x.toInt := by
  rw [IntKind.wrap_i64, BitVec.toInt_eq_toNat_cond]
  have := x.isLt
  split <;> omega
theorem ofInt_xr (a b : Int) : BitVec.ofInt 64 (xr a b) = BitVec.ofInt 64 a ^^^ BitVec.ofInt 64 b := by
  have e : xr a b = IntKind.i64.wrap ((BitVec.ofInt 64 a ^^^ BitVec.ofInt 64 b).toNat : Nat) := rfl
  rw [e, wrap_toNat, BitVec.ofInt_toInt]
theorem xr_back {a b : Int} (ha : isB a) : xr (xr a b) b = a := by
  have e : xr (xr a b) b = IntKind.i64.wrap ((BitVec.ofInt 64 (xr a b) ^^^ BitVec.ofInt 64 b).toNat : Nat) := rfl
  rw [e, ofInt_xr, BitVec.xor_assoc, BitVec.xor_self, BitVec.xor_zero, wrap_toNat]
  obtain ⟨a0, a1⟩ := ha
  rw [BitVec.toInt_ofInt]
  simp only [Int.bmod]
  omega
/-- What the law asks of a step. -/
theorem step_back {h0 h1 h2 h3 m : Int} (b0 : isB h0) (b1 : isB h1) (b2 : isB h2) (b3 : isB h3) (bm : isB m) :
    bits BinOp.and IntKind.i64 (stA h0 m - m) 255 = h0 ∧ xr (rot8 (stD h0 h3 m) 5) (stA h0 m) = h3 ∧ bits BinOp.and IntKind.i64 (stC h0 h2 h3 m - stD h0 h3 m) 255 = h2 ∧ xr (rot8 (stB h0 h1 h2 h3 m) 3) (stC h0 h2 h3 m) = h1 := by
  have A := stA_B b0 bm
  have D := stD_B b0 b3 bm
  have C := stC_B b0 b2 b3 bm
  have xa := xr_at b3 A
  have xc := xr_at b1 C
  have B := stB_B b0 b1 b2 b3 bm
  refine ⟨sm_back b0 bm, ?_, sm_back b2 D, ?_⟩
  · rw [rot8_in (by have := D.1; have := D.2; omega)]
    have : rotV (rotV (xr h3 (stA h0 m)) 3) (8 - 3) = xr h3 (stA h0 m) := (rot_at xa.1 xa.2 (k := 3) (by omega) (by omega)).2.2.2.2
    show xr (rotV (rotV (xr h3 (stA h0 m)) 3) 5) _ = _
    rw [show (5 : Int) = 8 - 3 from rfl, this]
    exact xr_back b3
  · rw [rot8_in (by have := B.1; have := B.2; omega)]
    have : rotV (rotV (xr h1 (stC h0 h2 h3 m)) 5) (8 - 5) = xr h1 (stC h0 h2 h3 m) := (rot_at xc.1 xc.2 (k := 5) (by omega) (by omega)).2.2.2.2
    show xr (rotV (rotV (xr h1 (stC h0 h2 h3 m)) 5) 3) _ = _
    rw [show (3 : Int) = 8 - 5 from rfl, this]
    exact xr_back b1

theorem mixL_nilFour : isFour (mixL []) := by rw [mixL_yes (by simp) (by decide)]; exact mixM_four (by simp) (by decide)
theorem isFour.fourB {h : List Int} (q : isFour h) : fourB h = true := by
  obtain ⟨h0, h1, h2, h3, rfl, b0, b1, b2, b3⟩ := q
  unfold L.fourB allB
  simp [b0, b1, b2, b3]
theorem mixL_cases (xs : List Int) : mixL xs = [] ∨ (mixL xs).length = 4 := by
  by_cases h : xs.length ≤ 8 ∧ allB xs = true
  · right
    rw [mixL_yes h.1 h.2]
    obtain ⟨_, _, _, _, e, -⟩ := mixM_four h.1 h.2
    rw [e]; rfl
  · left; exact mixL_no h

set_option maxRecDepth 100000 in
set_option maxHeartbeats 6400000 in
theorem law_FnMixes (a : Option Addr) (len cap : Nat) (w : World) (hr : Row w.heap.size w a len) :
    Calls Try.prog 8 #[.slice a len cap] w fun e w' => e = .returned (.bool true) ∧ Below w.heap.size w w' := by
  go_enter Try.func8, Try.ntmps8
  go_wp2_with fail
  refine (drawMixStep_any a len cap w hr).mono ?_
  rintro e w1 ⟨u, xs, m, rfl, N1, hs, hl, hm, be1⟩
  have z1 := be1.size
  go_wp2_with fail
  refine (mixStep_impl _ _ xs m w1 N1.ints).mono ?_
  rintro e w2 ⟨g, rfl, f2, G2⟩
  have be2 := be1.trans (f2.mono z1)
  have z2 := f2.size
  have N2 := N1.keep f2 (Nat.le_refl _)
  clear N1
  go_wp2_with fail
  refine (drawMix_any a len cap w2 (by have := hr.keep be2; exact ⟨this.1, this.2.imp id fun ⟨b, off, e, hb, hc⟩ => ⟨b, off, e, by omega, hc⟩⟩)).mono ?_
  rintro e w3 ⟨v, ys, rfl, V3, hy, hly, f3⟩
  have be3 := be2.trans (f3.mono (by omega))
  have z3 := f3.size
  have N3 := N2.keep f3 (by omega)
  have G3 := G2.keep f3 (by omega)
  clear N2 G2
  go_wp2_with fail
  refine (mix_impl _ _ ys w3 V3.ints (Nat.le_refl _) (by omega)).mono ?_
  rintro e w4 ⟨x, rfl, f4, X4⟩
  have be4 := be3.trans (f4.mono (by omega))
  have z4 := f4.size
  have N4 := N3.keep f4 (by omega)
  have G4 := G3.keep f4 (by omega)
  clear N3 G3 V3
  go_wp2_with fail
  refine (mix_impl 0 (.slice none 0 0) [] w4 ⟨none, 0, rfl, by simp, by omega, by simp, .inl rfl⟩ (Nat.zero_le _) (by simp)).mono ?_
  rintro e w5 ⟨o, rfl, f5, O5⟩
  have be5 := be4.trans (f5.mono (by omega))
  have z5 := f5.size
  have N5 := N4.keep f5 (by omega)
  have G5 := G4.keep f5 (by omega)
  have X5 := X4.keep f5 (by omega)
  clear N4 G4 X4
  obtain ⟨ao, ko, rfl, lo, bo⟩ := O5.shape
  obtain ⟨ax, kx, rfl, lx, bx⟩ := X5.shape
  have H4 : Hid ((mixL []).length = 4) := Lib.hid (by obtain ⟨_, _, _, _, e, -⟩ := mixL_nilFour; rw [e]; rfl)
  have eo : (((mixL []).length : Int) != 4) = false := by rw [H4.out]; rfl
  go_wp2_with fail
  refine (root_nil _ _ (mixL []) w5 O5.ints (Nat.le_refl _)).mono ?_
  rintro e w6 ⟨r, rfl, f6, R6⟩
  rw [show rootNil (mixL []) = mixL [] from if_pos mixL_nilFour.fourB] at R6
  have be6 := be5.trans (f6.mono (by omega))
  have z6 := f6.size
  have N6 := N5.keep f6 (by omega)
  have G6 := G5.keep f6 (by omega)
  have O6 := O5.keep f6 (by omega)
  clear N5 G5 X5 O5
  go_wp2_with fail
  have hsame := sameInts_any w6.heap.size _ _ (mixL []) (mixL []) w6 (R6.ints.mono (by omega)) (O6.ints.mono (by omega))
  rw [decide_eq_true rfl] at hsame
  refine hsame.mono ?_
  rintro e w7 ⟨rfl, f7⟩
  clear hsame
  have be7 := be6.trans (f7.mono (by omega))
  have z7 := f7.size
  have N7 := N6.keep f7 (by omega)
  have G7 := G6.keep f7 (by omega)
  clear N6 G6 O6 R6
  have key : ∀ n : Nat, n = (mixL ys).length → (((n : Int) != 0) = false) ∨ ((((n : Int) != 0) = true) ∧ (((n : Int) != 4) = false)) := by
    intro n hn
    rcases mixL_cases ys with h | h
    · left; rw [hn, h]; rfl
    · right; rw [hn, h]; exact ⟨rfl, rfl⟩
  obtain ⟨n, hn⟩ : ∃ n, n = (mixL ys).length := ⟨_, rfl⟩
  have key := key n hn
  rw [← hn]
  clear hn
  obtain ⟨ag, kg, rfl, lg, bg⟩ := G7.shape
  rcases key with k1 | ⟨k1, k2⟩
  all_goals (
    go_wp2_with fail
    refine (mixStep_spec _ _ xs m w7 N7.ints).mono ?_
    rintro e w8 ⟨q, rfl, f8, Q8⟩
    have be8 := be7.trans (f8.mono (by omega))
    have z8 := f8.size
    have N8 := N7.keep f8 (by omega)
    have G8 := G7.keep f8 (by omega)
    obtain ⟨aq, kq, rfl, lq, bq⟩ := Q8.shape
    clear N7 G7 Q8
    by_cases hc : fourB xs = true ∧ isB m
    case' neg =>
      rw [msL_no hc]
      clear hc
      go_wp2_with fail
      go_ret
      exact ⟨rfl, be8⟩
    obtain ⟨hc, bm⟩ := hc
    rw [msL_yes hc bm] at G8 lg lq ⊢
    obtain ⟨h0, h1, h2, h3, rfl, b0, b1, b2, b3⟩ := fourB_elim hc
    have bk := step_back b0 b1 b2 b3 bm
    have A := stA_B b0 bm
    have D := stD_B b0 b3 bm
    have C := stC_B b0 b2 b3 bm
    have B := stB_B b0 b1 b2 b3 bm
    have es : stepL [h0, h1, h2, h3] m = [stB h0 h1 h2 h3 m, stC h0 h2 h3 m, stD h0 h3 m, stA h0 m] := rfl
    rw [es] at G8 lg lq ⊢
    clear es hc
    generalize stA h0 m = xA at *
    generalize stB h0 h1 h2 h3 m = xB at *
    generalize stC h0 h2 h3 m = xC at *
    generalize stD h0 h3 m = xD at *
    obtain ⟨p1, p2, p3, p4⟩ := bk
    have e1 : (bits BinOp.and IntKind.i64 (xA - m) 255 == h0) = true := by rw [beq_iff_eq]; exact p1
    have e2 : (bits BinOp.xor IntKind.i64 (rot8 xD 5) xA == h3) = true := by rw [beq_iff_eq]; exact p2
    have e3 : (bits BinOp.and IntKind.i64 (xC - xD) 255 == h2) = true := by rw [beq_iff_eq]; exact p3
    have e4 : (bits BinOp.xor IntKind.i64 (rot8 xB 3) xC == h1) = true := by rw [beq_iff_eq]; exact p4
    clear p1 p2 p3 p4
    have s1 : IntKind.i64.wrap (xA - m) = xA - m := by rw [IntKind.wrap_i64]; unfold isB at *; omega
    have s3 : IntKind.i64.wrap (xC - xD) = xC - xD := by rw [IntKind.wrap_i64]; unfold isB at *; omega
    obtain ⟨bb, off, y, rfl, c0, q0, -⟩ := G8.at (k := 0) (by simp)
    obtain ⟨b', o', y1, e', c1, q1, -⟩ := G8.at (k := 1) (by simp)
    simp only [Option.some.injEq, Addr.mk.injEq, and_true] at e'; obtain ⟨rfl, rfl⟩ := e'
    obtain ⟨b', o', y2, e', c2, q2, -⟩ := G8.at (k := 2) (by simp)
    simp only [Option.some.injEq, Addr.mk.injEq, and_true] at e'; obtain ⟨rfl, rfl⟩ := e'
    obtain ⟨b', o', y3, e', c3, q3, -⟩ := G8.at (k := 3) (by simp)
    simp only [Option.some.injEq, Addr.mk.injEq, and_true] at e'; obtain ⟨rfl, rfl⟩ := e'
    rw [Nat.add_zero] at c0
    simp at q0 q1 q2 q3
    subst q0 q1 q2 q3
    obtain ⟨au, ku, rfl, lu, bu⟩ := N8.shape
    obtain ⟨hb, ho, y, rfl, d0, q0, -⟩ := N8.at (k := 0) (by simp)
    obtain ⟨b', o', y1, e', d1, q1, -⟩ := N8.at (k := 1) (by simp)
    simp only [Option.some.injEq, Addr.mk.injEq, and_true] at e'; obtain ⟨rfl, rfl⟩ := e'
    obtain ⟨b', o', y2, e', d2, q2, -⟩ := N8.at (k := 2) (by simp)
    simp only [Option.some.injEq, Addr.mk.injEq, and_true] at e'; obtain ⟨rfl, rfl⟩ := e'
    obtain ⟨b', o', y3, e', d3, q3, -⟩ := N8.at (k := 3) (by simp)
    simp only [Option.some.injEq, Addr.mk.injEq, and_true] at e'; obtain ⟨rfl, rfl⟩ := e'
    rw [Nat.add_zero] at d0
    simp at q0 q1 q2 q3
    subst q0 q1 q2 q3
    have lu4 : (4 : Int) ≤ ku := by simp at lu; omega
    have lg4 : (4 : Int) ≤ kg := by simp at lg; omega
    clear N8 G8 hs hy lg lu
    go_wp2_with fail
    go_region
    go_wp2_with fail
    have w9 : Below w8.heap.size w8 w8.drew.drew := ((Below.refl _ _).drew).drew
    have zdd : w8.heap.size ≤ w8.drew.drew.heap.size := Nat.le_refl _
    have E0 : w8.drew.drew.cell? ⟨hb, ho, none⟩ = some (.int .i64 h0) := ck w9 d0
    have E1 : w8.drew.drew.cell? ⟨hb, ho + 1, none⟩ = some (.int .i64 h1) := ck w9 d1
    have E2 : w8.drew.drew.cell? ⟨hb, ho + 2, none⟩ = some (.int .i64 h2) := ck w9 d2
    have E3 : w8.drew.drew.cell? ⟨hb, ho + 3, none⟩ = some (.int .i64 h3) := ck w9 d3
    go_region_held3 (fun w' => w'.cell? ⟨hb, ho, none⟩ = some (.int .i64 h0) ∧ w'.cell? ⟨hb, ho + 1, none⟩ = some (.int .i64 h1) ∧ w'.cell? ⟨hb, ho + 2, none⟩ = some (.int .i64 h2) ∧ w'.cell? ⟨hb, ho + 3, none⟩ = some (.int .i64 h3))
      (first | exact ⟨E0, E1, E2, E3⟩ | exact ⟨ck j1 E0, ck j1 E1, ck j1 E2, ck j1 E3⟩ | exact ⟨ck j2 (ck j1 E0), ck j2 (ck j1 E1), ck j2 (ck j1 E2), ck j2 (ck j1 E3)⟩)
      (first
        | (go_at_call 11; (with_reducible refine (rot8_impl xD 5 w8.drew.drew).mono ?_); rintro e v1 ⟨rfl, j1⟩; have y1 := j1.size)
        | (go_at_call 11; (with_reducible refine (rot8_impl xB 3 v1).mono ?_); rintro e v2 ⟨rfl, j2⟩))
    go_wp2_with fail
    go_ret
    exact ⟨rfl, (be8.trans (w9.mono (by omega))).trans ((j1.trans (j2.mono (by omega))).mono (by omega))⟩)
end Go.Proofs.Ytldeckiflghpcaa.L
