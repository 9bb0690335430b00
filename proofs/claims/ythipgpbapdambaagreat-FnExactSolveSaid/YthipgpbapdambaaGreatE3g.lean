/- Exact laws of layer 3 (written by tools/lawsys.py): the program's function and its model return the same, write into no argument, and own what they return. -/
import Derived.Test.YthipgpbapdambaaGreatSolveI
import Derived.Test.YthipgpbapdambaaGreatB21
import Derived.Test.YthipgpbapdambaaGreatB2
import Derived.Test.YthipgpbapdambaaGreatToInts2
namespace Go.Proofs.YthipgpbapdambaaGreat.L
open Go.RowKit Go.Proofs.YthipgpbapdambaaGreat.S
set_option linter.unusedVariables false
set_option linter.unusedSimpArgs false
theorem solL_lenE (s : SysC) (xs : List Int) : (solL s xs).length ≤ 3000 := by
 unfold solL
 split
 ·rename_i h
  unfold solB at h
  rw [Bool.and_eq_true, Bool.and_eq_true] at h
  have h1 := of_decide_eq_true h.2.1
  have lim := limB_facts (sysOk_limB h.1)
  rw [solveL_len]
  omega
 ·simp

set_option maxRecDepth 100000 in
set_option maxHeartbeats 6400000 in
theorem law_FnExactSolve (viA voA vhA vcA : Value) (sA : SysC) (vX : Value) (tsX : List Int) (w : World) (hA : SysR false 0 w.heap.size w viA voA vhA vcA sA) (hX : Ints w.heap.size w vX tsX) :
  Calls Tryz.prog 3 #[.agg #[viA, voA, vhA, vcA], vX] w fun e w' => e = .returned (.bool true) ∧ Below w.heap.size w w' := by
 obtain ⟨aoA, koA, ahA, khA, acA, kcA, rfl, rfl, rfl, rfl, loA, boA, lhA, bhA, lcA, bcA, fiA⟩ := hA.shape
 obtain ⟨aX, kX, rfl, laX, baX⟩ := hX.shape
 by_cases hlX : tsX.length ≤ 1048576
 case' neg =>
  go_enter Tryz.func3, Tryz.ntmps3
  go_wp2_with fail
  go_ret
  exact ⟨rfl, by (repeat (with_reducible first | exact bR _ _ | assumption | refine bD ?_ | refine bN ?_ _ | refine bA ?_ _ | refine bS ?_ _))⟩
 by_cases hlA : szS sA ≤ 1048576
 case' neg =>
  go_enter Tryz.func3, Tryz.ntmps3
  go_wp2_with fail
  refine name_call fun w1 hw1 => ?_
  have b1 : Below w.heap.size w w1 := by rw [hw1]; (repeat (with_reducible first | exact bR _ _ | assumption | refine bD ?_ | refine bN ?_ _ | refine bA ?_ _ | refine bS ?_ _))
  have z1 : w.heap.size + 1 ≤ w1.heap.size := by rw [hw1]; simp
  have e1 : Below w.heap.size w w1 := by rw [hw1]; (repeat (with_reducible first | exact bR _ _ | assumption | refine bD ?_ | refine bN ?_ _ | refine bA ?_ _ | refine bS ?_ _))
  have cA01 : w1.cell? ⟨w.heap.size, 0, none⟩ = some (.int .i64 sA.ins) := by rw [hw1]; first | (simp; done) | go_simp
  have cA11 : w1.cell? ⟨w.heap.size, 1, none⟩ = some (.slice aoA sA.outs.length koA) := by rw [hw1]; first | (simp; done) | go_simp
  have cA21 : w1.cell? ⟨w.heap.size, 2, none⟩ = some (.slice ahA sA.hints.length khA) := by rw [hw1]; first | (simp; done) | go_simp
  have cA31 : w1.cell? ⟨w.heap.size, 3, none⟩ = some (.slice acA sA.cons.length kcA) := by rw [hw1]; first | (simp; done) | go_simp
  have tA1 := hA.keep e1 (by omega)
  have tX1 := hX.keep e1 (by omega)
  clear hw1
  refine (szSys_no false 0 w.heap.size _ _ _ _ sA 1048576 _ tA1 (by omega) (by omega) (by omega) (by omega)).mono ?_; rintro e w2 ⟨rfl, f2⟩
  have b2 := b1.trans (f2.mono (by omega))
  have z2 := f2.size
  have cA02 := ck f2 cA01
  have cA12 := ck f2 cA11
  have cA22 := ck f2 cA21
  have cA32 := ck f2 cA31
  have tA2 := tA1.keep f2 (by omega)
  have tX2 := tX1.keep f2 (by omega)
  clear cA01 cA11 cA21 cA31 tA1 tX1
  go_wp2_with fail
  go_ret
  exact ⟨rfl, b2⟩
 have nS : szLs sA.outs + szHs sA.hints + szCs sA.cons ≤ 1048576 := hlA
 have nO : sA.outs.length ≤ 1048576 := by unfold szLs at nS; omega
 have nH : sA.hints.length ≤ 1048576 := by unfold szHs at nS; omega
 have nC : sA.cons.length ≤ 1048576 := by unfold szCs at nS; omega
 have q0 : 0 ≤ (1048576 : Int) - szLs sA.outs - szHs sA.hints - szCs sA.cons := by omega
 have hT := totS_le sA
 have hF : (solL sA tsX).length ≤ 1048576 := Nat.le_trans (solL_lenE _ _) (by omega)
 go_enter Tryz.func3, Tryz.ntmps3
 go_wp2_with fail
 refine name_call fun w1 hw1 => ?_
 have b1 : Below w.heap.size w w1 := by rw [hw1]; (repeat (with_reducible first | exact bR _ _ | assumption | refine bD ?_ | refine bN ?_ _ | refine bA ?_ _ | refine bS ?_ _))
 have z1 : w.heap.size + 1 ≤ w1.heap.size := by rw [hw1]; simp
 have e1 : Below w.heap.size w w1 := by rw [hw1]; (repeat (with_reducible first | exact bR _ _ | assumption | refine bD ?_ | refine bN ?_ _ | refine bA ?_ _ | refine bS ?_ _))
 have cA01 : w1.cell? ⟨w.heap.size, 0, none⟩ = some (.int .i64 sA.ins) := by rw [hw1]; first | (simp; done) | go_simp
 have cA11 : w1.cell? ⟨w.heap.size, 1, none⟩ = some (.slice aoA sA.outs.length koA) := by rw [hw1]; first | (simp; done) | go_simp
 have cA21 : w1.cell? ⟨w.heap.size, 2, none⟩ = some (.slice ahA sA.hints.length khA) := by rw [hw1]; first | (simp; done) | go_simp
 have cA31 : w1.cell? ⟨w.heap.size, 3, none⟩ = some (.slice acA sA.cons.length kcA) := by rw [hw1]; first | (simp; done) | go_simp
 have tA1 := hA.keep e1 (by omega)
 have tX1 := hX.keep e1 (by omega)
 clear hw1
 refine (szSys_ok false 0 w.heap.size _ _ _ _ sA 1048576 _ tA1 (by omega) (by omega) (by omega) (by omega)).mono ?_; rintro e w2 ⟨rfl, f2⟩
 have b2 := b1.trans (f2.mono (by omega))
 have z2 := f2.size
 have cA02 := ck f2 cA01
 have cA12 := ck f2 cA11
 have cA22 := ck f2 cA21
 have cA32 := ck f2 cA31
 have tA2 := tA1.keep f2 (by omega)
 have tX2 := tX1.keep f2 (by omega)
 clear cA01 cA11 cA21 cA31 tA1 tX1
 have lcA02 : w.heap.size < w2.heap.size := blt cA02
 go_wp2_with fail
 refine name_call fun w3 hw3 => ?_
 have b3 : Below w.heap.size w w3 := by rw [hw3]; (repeat (with_reducible first | exact bR _ _ | assumption | refine bD ?_ | refine bN ?_ _ | refine bA ?_ _ | refine bS ?_ _))
 have z3 : w2.heap.size + 0 ≤ w3.heap.size := by rw [hw3]; simp
 have e3 : Below w2.heap.size w2 w3 := by rw [hw3]; (repeat (with_reducible first | exact bR _ _ | assumption | refine bD ?_ | refine bN ?_ _ | refine bA ?_ _ | refine bS ?_ _))
 have cA03 := ck e3 cA02
 have cA13 := ck e3 cA12
 have cA23 := ck e3 cA22
 have cA33 := ck e3 cA32
 have tA3 := tA2.keep e3 (by omega)
 have tX3 := tX2.keep e3 (by omega)
 clear hw3 lcA02 cA02 cA12 cA22 cA32 tA2 tX2
 refine (toSys_any false 0 w.heap.size _ _ _ _ sA _ tA3 (by omega) hlA).mono ?_; rintro e w4 ⟨uomA, uhmA, ucmA, rfl, f4, q4⟩
 have b4 := b3.trans (f4.mono (by omega))
 have z4 := f4.size
 have cA04 := ck f4 cA03
 have cA14 := ck f4 cA13
 have cA24 := ck f4 cA23
 have cA34 := ck f4 cA33
 have tA4 := tA3.keep f4 (by omega)
 have tX4 := tX3.keep f4 (by omega)
 clear cA03 cA13 cA23 cA33 tA3 tX3
 obtain ⟨aomA, komA, ahmA, khmA, acmA, kcmA, -, rfl, rfl, rfl, lomA, bomA, lhmA, bhmA, lcmA, bcmA, -⟩ := q4.shape
 have lcA04 : w.heap.size < w4.heap.size := blt cA04
 go_wp2_with fail
 refine name_call fun w5 hw5 => ?_
 have b5 : Below w.heap.size w w5 := by rw [hw5]; (repeat (with_reducible first | exact bR _ _ | assumption | refine bD ?_ | refine bN ?_ _ | refine bA ?_ _ | refine bS ?_ _))
 have z5 : w4.heap.size + 0 ≤ w5.heap.size := by rw [hw5]; simp
 have e5 : Below w4.heap.size w4 w5 := by rw [hw5]; (repeat (with_reducible first | exact bR _ _ | assumption | refine bD ?_ | refine bN ?_ _ | refine bA ?_ _ | refine bS ?_ _))
 have cA05 := ck e5 cA04
 have cA15 := ck e5 cA14
 have cA25 := ck e5 cA24
 have cA35 := ck e5 cA34
 have tA5 := tA4.keep e5 (by omega)
 have tX5 := tX4.keep e5 (by omega)
 have tmA5 := q4.keep e5 (by omega)
 clear hw5 lcA04 cA04 cA14 cA24 cA34 tA4 tX4
 refine (toIntS_own _ _ _ _ tX5 (by omega) (by omega)).mono ?_; rintro e w6 ⟨umX, rfl, f6, q6⟩
 have b6 := b5.trans (f6.mono (by omega))
 have z6 := f6.size
 have cA06 := ck f6 cA05
 have cA16 := ck f6 cA15
 have cA26 := ck f6 cA25
 have cA36 := ck f6 cA35
 have tA6 := tA5.keep f6 (by omega)
 have tX6 := tX5.keep f6 (by omega)
 have tmA6 := tmA5.keep f6 (by omega)
 clear cA05 cA15 cA25 cA35 tA5 tX5 tmA5
 obtain ⟨amX, kmX, rfl, lamX, bamX⟩ := q6.shape
 have lcA06 : w.heap.size < w6.heap.size := blt cA06
 go_wp2_with fail
 refine name_call fun w7 hw7 => ?_
 have b7 : Below w.heap.size w w7 := by rw [hw7]; (repeat (with_reducible first | exact bR _ _ | assumption | refine bD ?_ | refine bN ?_ _ | refine bA ?_ _ | refine bS ?_ _))
 have z7 : w6.heap.size + 0 ≤ w7.heap.size := by rw [hw7]; simp
 have e7 : Below w6.heap.size w6 w7 := by rw [hw7]; (repeat (with_reducible first | exact bR _ _ | assumption | refine bD ?_ | refine bN ?_ _ | refine bA ?_ _ | refine bS ?_ _))
 have cA07 := ck e7 cA06
 have cA17 := ck e7 cA16
 have cA27 := ck e7 cA26
 have cA37 := ck e7 cA36
 have tA7 := tA6.keep e7 (by omega)
 have tX7 := tX6.keep e7 (by omega)
 have tmA7 := tmA6.keep e7 (by omega)
 have tmX7 := q6.keep e7 (by omega)
 clear hw7 lcA06 cA06 cA16 cA26 cA36 tA6 tX6 tmA6
 refine (solve_spec _ _ _ _ _ _ _ sA _ _ tsX _ tmA7 (by omega) tmX7.ints (by omega) hlX nH nO nC).mono ?_; rintro e w8 ⟨uW, rfl, f8, q8⟩
 have b8 := b7.trans (f8.mono (by omega))
 have z8 := f8.size
 have cA08 := ck f8 cA07
 have cA18 := ck f8 cA17
 have cA28 := ck f8 cA27
 have cA38 := ck f8 cA37
 have tA8 := tA7.keep f8 (by omega)
 have tX8 := tX7.keep f8 (by omega)
 have tmA8 := tmA7.keep f8 (by omega)
 have tmX8 := tmX7.keep f8 (by omega)
 clear cA07 cA17 cA27 cA37 tA7 tX7 tmA7 tmX7
 obtain ⟨aW, kW, rfl, laW, baW⟩ := q8.shape
 clear tmA8
 clear tmX8
 have lcA08 : w.heap.size < w8.heap.size := blt cA08
 go_wp2_with fail
 refine name_call fun w9 hw9 => ?_
 have b9 : Below w.heap.size w w9 := by rw [hw9]; (repeat (with_reducible first | exact bR _ _ | assumption | refine bD ?_ | refine bN ?_ _ | refine bA ?_ _ | refine bS ?_ _))
 have z9 : w8.heap.size + 0 ≤ w9.heap.size := by rw [hw9]; simp
 have e9 : Below w8.heap.size w8 w9 := by rw [hw9]; (repeat (with_reducible first | exact bR _ _ | assumption | refine bD ?_ | refine bN ?_ _ | refine bA ?_ _ | refine bS ?_ _))
 have cA09 := ck e9 cA08
 have cA19 := ck e9 cA18
 have cA29 := ck e9 cA28
 have cA39 := ck e9 cA38
 have tA9 := tA8.keep e9 (by omega)
 have tX9 := tX8.keep e9 (by omega)
 have tW9 := q8.keep e9 (by omega)
 clear hw9 lcA08 cA08 cA18 cA28 cA38 tA8 tX8
 refine (toSys_any false 0 w.heap.size _ _ _ _ sA _ tA9 (by omega) hlA).mono ?_; rintro e w10 ⟨uoxA, uhxA, ucxA, rfl, f10, q10⟩
 have b10 := b9.trans (f10.mono (by omega))
 have z10 := f10.size
 have cA010 := ck f10 cA09
 have cA110 := ck f10 cA19
 have cA210 := ck f10 cA29
 have cA310 := ck f10 cA39
 have tA10 := tA9.keep f10 (by omega)
 have tX10 := tX9.keep f10 (by omega)
 have tW10 := tW9.keep f10 (by omega)
 clear cA09 cA19 cA29 cA39 tA9 tX9 tW9
 obtain ⟨aoxA, koxA, ahxA, khxA, acxA, kcxA, -, rfl, rfl, rfl, loxA, boxA, lhxA, bhxA, lcxA, bcxA, -⟩ := q10.shape
 have lcA010 : w.heap.size < w10.heap.size := blt cA010
 go_wp2_with fail
 refine name_call fun w11 hw11 => ?_
 have b11 : Below w.heap.size w w11 := by rw [hw11]; (repeat (with_reducible first | exact bR _ _ | assumption | refine bD ?_ | refine bN ?_ _ | refine bA ?_ _ | refine bS ?_ _))
 have z11 : w10.heap.size + 1 ≤ w11.heap.size := by rw [hw11]; simp
 have e11 : Below w10.heap.size w10 w11 := by rw [hw11]; (repeat (with_reducible first | exact bR _ _ | assumption | refine bD ?_ | refine bN ?_ _ | refine bA ?_ _ | refine bS ?_ _))
 have cA011 := ck e11 cA010
 have cA111 := ck e11 cA110
 have cA211 := ck e11 cA210
 have cA311 := ck e11 cA310
 have cxA011 : w11.cell? ⟨w10.heap.size, 0, none⟩ = some (.int .i64 sA.ins) := by rw [hw11]; first | (simp; done) | go_simp
 have cxA111 : w11.cell? ⟨w10.heap.size, 1, none⟩ = some (.slice aoxA sA.outs.length koxA) := by rw [hw11]; first | (simp; done) | go_simp
 have cxA211 : w11.cell? ⟨w10.heap.size, 2, none⟩ = some (.slice ahxA sA.hints.length khxA) := by rw [hw11]; first | (simp; done) | go_simp
 have cxA311 : w11.cell? ⟨w10.heap.size, 3, none⟩ = some (.slice acxA sA.cons.length kcxA) := by rw [hw11]; first | (simp; done) | go_simp
 have tA11 := tA10.keep e11 (by omega)
 have tX11 := tX10.keep e11 (by omega)
 have tW11 := tW10.keep e11 (by omega)
 have txA11 := q10.keep e11 (by omega)
 clear hw11 lcA010 cA010 cA110 cA210 cA310 tA10 tX10 tW10
 refine (toIntS_own _ _ _ _ tX11 (by omega) (by omega)).mono ?_; rintro e w12 ⟨uxX, rfl, f12, q12⟩
 have b12 := b11.trans (f12.mono (by omega))
 have z12 := f12.size
 have cA012 := ck f12 cA011
 have cA112 := ck f12 cA111
 have cA212 := ck f12 cA211
 have cA312 := ck f12 cA311
 have cxA012 := ck f12 cxA011
 have cxA112 := ck f12 cxA111
 have cxA212 := ck f12 cxA211
 have cxA312 := ck f12 cxA311
 have tA12 := tA11.keep f12 (by omega)
 have tX12 := tX11.keep f12 (by omega)
 have tW12 := tW11.keep f12 (by omega)
 have txA12 := txA11.keep f12 (by omega)
 clear cA011 cA111 cA211 cA311 cxA011 cxA111 cxA211 cxA311 tA11 tX11 tW11 txA11
 obtain ⟨axX, kxX, rfl, laxX, baxX⟩ := q12.shape
 have lcA012 : w.heap.size < w12.heap.size := blt cA012
 have lcxA012 : w10.heap.size < w12.heap.size := blt cxA012
 go_wp2_with fail
 refine name_call fun w13 hw13 => ?_
 have b13 : Below w.heap.size w w13 := by rw [hw13]; (repeat (with_reducible first | exact bR _ _ | assumption | refine bD ?_ | refine bN ?_ _ | refine bA ?_ _ | refine bS ?_ _))
 have z13 : w12.heap.size + 0 ≤ w13.heap.size := by rw [hw13]; simp
 have e13 : Below w12.heap.size w12 w13 := by rw [hw13]; (repeat (with_reducible first | exact bR _ _ | assumption | refine bD ?_ | refine bN ?_ _ | refine bA ?_ _ | refine bS ?_ _))
 have cA013 := ck e13 cA012
 have cA113 := ck e13 cA112
 have cA213 := ck e13 cA212
 have cA313 := ck e13 cA312
 have cxA013 := ck e13 cxA012
 have cxA113 := ck e13 cxA112
 have cxA213 := ck e13 cxA212
 have cxA313 := ck e13 cxA312
 have tA13 := tA12.keep e13 (by omega)
 have tX13 := tX12.keep e13 (by omega)
 have tW13 := tW12.keep e13 (by omega)
 have txA13 := txA12.keep e13 (by omega)
 have txX13 := q12.keep e13 (by omega)
 clear hw13 lcA012 lcxA012 cA012 cA112 cA212 cA312 cxA012 cxA112 cxA212 cxA312 tA12 tX12 tW12 txA12
 refine (solve_impl _ _ _ _ _ _ _ sA _ _ tsX _ txA13 (by omega) txX13.ints (by omega) hlX nH nO nC).mono ?_; rintro e w14 ⟨uG, rfl, f14, q14⟩
 have b14 := b13.trans (f14.mono (by omega))
 have z14 := f14.size
 have cA014 := ck f14 cA013
 have cA114 := ck f14 cA113
 have cA214 := ck f14 cA213
 have cA314 := ck f14 cA313
 have cxA014 := ck f14 cxA013
 have cxA114 := ck f14 cxA113
 have cxA214 := ck f14 cxA213
 have cxA314 := ck f14 cxA313
 have tA14 := tA13.keep f14 (by omega)
 have tX14 := tX13.keep f14 (by omega)
 have tW14 := tW13.keep f14 (by omega)
 have txA14 := txA13.keep f14 (by omega)
 have txX14 := txX13.keep f14 (by omega)
 clear cA013 cA113 cA213 cA313 cxA013 cxA113 cxA213 cxA313 tA13 tX13 tW13 txA13 txX13
 obtain ⟨aG, kG, rfl, laG, baG⟩ := q14.shape
 have lcA014 : w.heap.size < w14.heap.size := blt cA014
 have lcxA014 : w10.heap.size < w14.heap.size := blt cxA014
 go_wp2_with fail
 refine name_call fun w15 hw15 => ?_
 have b15 : Below w.heap.size w w15 := by rw [hw15]; (repeat (with_reducible first | exact bR _ _ | assumption | refine bD ?_ | refine bN ?_ _ | refine bA ?_ _ | refine bS ?_ _))
 have z15 : w14.heap.size + 0 ≤ w15.heap.size := by rw [hw15]; simp
 have e15 : Below w14.heap.size w14 w15 := by rw [hw15]; (repeat (with_reducible first | exact bR _ _ | assumption | refine bD ?_ | refine bN ?_ _ | refine bA ?_ _ | refine bS ?_ _))
 have cA015 := ck e15 cA014
 have cA115 := ck e15 cA114
 have cA215 := ck e15 cA214
 have cA315 := ck e15 cA314
 have cxA015 := ck e15 cxA014
 have cxA115 := ck e15 cxA114
 have cxA215 := ck e15 cxA214
 have cxA315 := ck e15 cxA314
 have tA15 := tA14.keep e15 (by omega)
 have tX15 := tX14.keep e15 (by omega)
 have tW15 := tW14.keep e15 (by omega)
 have txA15 := txA14.keep e15 (by omega)
 have txX15 := txX14.keep e15 (by omega)
 have tG15 := q14.keep e15 (by omega)
 clear hw15 lcA014 lcxA014 cA014 cA114 cA214 cA314 cxA014 cxA114 cxA214 cxA314 tA14 tX14 tW14 txA14 txX14
 refine (eqNums_any _ _ _ _ _ _ _ _ _ _ _ tG15 tW15 (by omega) (by omega)).mono ?_; rw [dec_self]; rintro e w16 ⟨rfl, f16⟩
 have b16 := b15.trans (f16.mono (by omega))
 have z16 := f16.size
 have cA016 := ck f16 cA015
 have cA116 := ck f16 cA115
 have cA216 := ck f16 cA215
 have cA316 := ck f16 cA315
 have cxA016 := ck f16 cxA015
 have cxA116 := ck f16 cxA115
 have cxA216 := ck f16 cxA215
 have cxA316 := ck f16 cxA315
 have tA16 := tA15.keep f16 (by omega)
 have tX16 := tX15.keep f16 (by omega)
 have tW16 := tW15.keep f16 (by omega)
 have txA16 := txA15.keep f16 (by omega)
 have txX16 := txX15.keep f16 (by omega)
 have tG16 := tG15.keep f16 (by omega)
 clear cA015 cA115 cA215 cA315 cxA015 cxA115 cxA215 cxA315 tA15 tX15 tW15 txA15 txX15 tG15
 have lcA016 : w.heap.size < w16.heap.size := blt cA016
 have lcxA016 : w10.heap.size < w16.heap.size := blt cxA016
 go_wp2_with fail
 refine name_wp fun w17 hw17 => ?_
 have b17 : Below w.heap.size w w17 := by rw [hw17]; (repeat (with_reducible first | exact bR _ _ | assumption | refine bD ?_ | refine bN ?_ _ | refine bA ?_ _ | refine bS ?_ _))
 have z17 : w16.heap.size + 0 ≤ w17.heap.size := by rw [hw17]; simp
 have e17 : Below w16.heap.size w16 w17 := by rw [hw17]; (repeat (with_reducible first | exact bR _ _ | assumption | refine bD ?_ | refine bN ?_ _ | refine bA ?_ _ | refine bS ?_ _))
 have cA017 := ck e17 cA016
 have cA117 := ck e17 cA116
 have cA217 := ck e17 cA216
 have cA317 := ck e17 cA316
 have cxA017 := ck e17 cxA016
 have cxA117 := ck e17 cxA116
 have cxA217 := ck e17 cxA216
 have cxA317 := ck e17 cxA316
 have tA17 := tA16.keep e17 (by omega)
 have tX17 := tX16.keep e17 (by omega)
 have tW17 := tW16.keep e17 (by omega)
 have txA17 := txA16.keep e17 (by omega)
 have txX17 := txX16.keep e17 (by omega)
 have tG17 := tG16.keep e17 (by omega)
 clear hw17 lcA016 lcxA016 cA016 cA116 cA216 cA316 cxA016 cxA116 cxA216 cxA316 tA16 tX16 tW16 txA16 txX16 tG16
 have d17 : Below w17.heap.size w17 w17.drew := (Below.refl _ _).drew
 have zd17 : w17.heap.size ≤ w17.drew.heap.size := Nat.le_refl _
 have ze17 : w17.drew.heap.size ≤ w17.heap.size := Nat.le_refl _
 have GxA0 : w17.drew.cell? ⟨w10.heap.size, 0, none⟩ = some (.int .i64 sA.ins) := cell_keep d17 cxA017
 have GxA1 : w17.drew.cell? ⟨w10.heap.size, 1, none⟩ = some (.slice aoxA sA.outs.length koxA) := cell_keep d17 cxA117
 have GxA2 : w17.drew.cell? ⟨w10.heap.size, 2, none⟩ = some (.slice ahxA sA.hints.length khxA) := cell_keep d17 cxA217
 have GxA3 : w17.drew.cell? ⟨w10.heap.size, 3, none⟩ = some (.slice acxA sA.cons.length kcxA) := cell_keep d17 cxA317
 have GA0 : w17.drew.cell? ⟨w.heap.size, 0, none⟩ = some (.int .i64 sA.ins) := cell_keep d17 cA017
 have GA1 : w17.drew.cell? ⟨w.heap.size, 1, none⟩ = some (.slice aoA sA.outs.length koA) := cell_keep d17 cA117
 have GA2 : w17.drew.cell? ⟨w.heap.size, 2, none⟩ = some (.slice ahA sA.hints.length khA) := cell_keep d17 cA217
 have GA3 : w17.drew.cell? ⟨w.heap.size, 3, none⟩ = some (.slice acA sA.cons.length kcA) := cell_keep d17 cA317
 have UA := tA17.keep d17 (by omega)
 have UxA := txA17.keep d17 (by omega)
 go_region_held3 (fun w' => w'.cell? ⟨w10.heap.size, 0, none⟩ = some (.int .i64 sA.ins) ∧ w'.cell? ⟨w10.heap.size, 1, none⟩ = some (.slice aoxA sA.outs.length koxA) ∧ w'.cell? ⟨w10.heap.size, 2, none⟩ = some (.slice ahxA sA.hints.length khxA) ∧ w'.cell? ⟨w10.heap.size, 3, none⟩ = some (.slice acxA sA.cons.length kcxA) ∧ w'.cell? ⟨w.heap.size, 0, none⟩ = some (.int .i64 sA.ins) ∧ w'.cell? ⟨w.heap.size, 1, none⟩ = some (.slice aoA sA.outs.length koA) ∧ w'.cell? ⟨w.heap.size, 2, none⟩ = some (.slice ahA sA.hints.length khA) ∧ w'.cell? ⟨w.heap.size, 3, none⟩ = some (.slice acA sA.cons.length kcA)) (first | exact ⟨GxA0, GxA1, GxA2, GxA3, GA0, GA1, GA2, GA3⟩ | exact ⟨cell_keep j1 GxA0, cell_keep j1 GxA1, cell_keep j1 GxA2, cell_keep j1 GxA3, cell_keep j1 GA0, cell_keep j1 GA1, cell_keep j1 GA2, cell_keep j1 GA3⟩ | exact ⟨cell_keep j2 (cell_keep j1 GxA0), cell_keep j2 (cell_keep j1 GxA1), cell_keep j2 (cell_keep j1 GxA2), cell_keep j2 (cell_keep j1 GxA3), cell_keep j2 (cell_keep j1 GA0), cell_keep j2 (cell_keep j1 GA1), cell_keep j2 (cell_keep j1 GA2), cell_keep j2 (cell_keep j1 GA3)⟩)
  (first
   | (go_at_call 9; refine (toSys_any false 0 w.heap.size _ _ _ _ sA w17.drew UA (by omega) hlA).mono ?_; rintro e v1 ⟨uo1, uh1, uc1, rfl, j1, q1⟩; obtain ⟨ao1, ko1, ah1, kh1, ac1, kc1, -, rfl, rfl, rfl, lo1, bo1, lh1, bh1, lc1, bc1, -⟩ := q1.shape; have s1 := j1.size)
   | (go_at_call 13; refine (eqSys_same _ _ _ _ _ _ _ _ _ _ _ _ _ _ sA v1 (UxA.keep j1 (by omega)) q1 (by omega) (Nat.le_refl _)).mono ?_; rintro e v2 ⟨rfl, j2⟩))
 have s2 := j2.size
 have f18 : Below w17.heap.size w17 v2 := (d17.trans (j1.mono (by omega))).trans (j2.mono (by omega))
 have b18 := b17.trans (f18.mono (by omega))
 have z18 := f18.size
 have cA018 := cell_keep f18 cA017
 have cA118 := cell_keep f18 cA117
 have cA218 := cell_keep f18 cA217
 have cA318 := cell_keep f18 cA317
 have cxA018 := cell_keep f18 cxA017
 have cxA118 := cell_keep f18 cxA117
 have cxA218 := cell_keep f18 cxA217
 have cxA318 := cell_keep f18 cxA317
 have tA18 := tA17.keep f18 (by omega)
 have tX18 := tX17.keep f18 (by omega)
 have tW18 := tW17.keep f18 (by omega)
 have txA18 := txA17.keep f18 (by omega)
 have txX18 := txX17.keep f18 (by omega)
 have tG18 := tG17.keep f18 (by omega)
 clear cA017 cA117 cA217 cA317 cxA017 cxA117 cxA217 cxA317 tA17 tX17 tW17 txA17 txX17 tG17 GxA0 GxA1 GxA2 GxA3 GA0 GA1 GA2 GA3 UA UxA
 have lcA018 : w.heap.size < v2.heap.size := blt cA018
 have lcxA018 : w10.heap.size < v2.heap.size := blt cxA018
 go_wp2_with fail
 refine name_call fun w19 hw19 => ?_
 have b19 : Below w.heap.size w w19 := by rw [hw19]; (repeat (with_reducible first | exact bR _ _ | assumption | refine bD ?_ | refine bN ?_ _ | refine bA ?_ _ | refine bS ?_ _))
 have z19 : v2.heap.size + 0 ≤ w19.heap.size := by rw [hw19]; simp
 have e19 : Below v2.heap.size v2 w19 := by rw [hw19]; (repeat (with_reducible first | exact bR _ _ | assumption | refine bD ?_ | refine bN ?_ _ | refine bA ?_ _ | refine bS ?_ _))
 have cA019 := ck e19 cA018
 have cA119 := ck e19 cA118
 have cA219 := ck e19 cA218
 have cA319 := ck e19 cA318
 have cxA019 := ck e19 cxA018
 have cxA119 := ck e19 cxA118
 have cxA219 := ck e19 cxA218
 have cxA319 := ck e19 cxA318
 have tA19 := tA18.keep e19 (by omega)
 have tX19 := tX18.keep e19 (by omega)
 have tW19 := tW18.keep e19 (by omega)
 have txA19 := txA18.keep e19 (by omega)
 have txX19 := txX18.keep e19 (by omega)
 have tG19 := tG18.keep e19 (by omega)
 clear hw19 lcA018 lcxA018 cA018 cA118 cA218 cA318 cxA018 cxA118 cxA218 cxA318 tA18 tX18 tW18 txA18 txX18 tG18
 refine (toIntS_own _ _ _ _ tX19 (by omega) (by omega)).mono ?_; rintro e w20 ⟨uyX, rfl, f20, q20⟩
 have b20 := b19.trans (f20.mono (by omega))
 have z20 := f20.size
 have cA020 := ck f20 cA019
 have cA120 := ck f20 cA119
 have cA220 := ck f20 cA219
 have cA320 := ck f20 cA319
 have cxA020 := ck f20 cxA019
 have cxA120 := ck f20 cxA119
 have cxA220 := ck f20 cxA219
 have cxA320 := ck f20 cxA319
 have tA20 := tA19.keep f20 (by omega)
 have tX20 := tX19.keep f20 (by omega)
 have tW20 := tW19.keep f20 (by omega)
 have txA20 := txA19.keep f20 (by omega)
 have txX20 := txX19.keep f20 (by omega)
 have tG20 := tG19.keep f20 (by omega)
 clear cA019 cA119 cA219 cA319 cxA019 cxA119 cxA219 cxA319 tA19 tX19 tW19 txA19 txX19 tG19
 obtain ⟨ayX, kyX, rfl, layX, bayX⟩ := q20.shape
 have lcA020 : w.heap.size < w20.heap.size := blt cA020
 have lcxA020 : w10.heap.size < w20.heap.size := blt cxA020
 go_wp2_with fail
 refine name_call fun w21 hw21 => ?_
 have b21 : Below w.heap.size w w21 := by rw [hw21]; (repeat (with_reducible first | exact bR _ _ | assumption | refine bD ?_ | refine bN ?_ _ | refine bA ?_ _ | refine bS ?_ _))
 have z21 : w20.heap.size + 0 ≤ w21.heap.size := by rw [hw21]; simp
 have e21 : Below w20.heap.size w20 w21 := by rw [hw21]; (repeat (with_reducible first | exact bR _ _ | assumption | refine bD ?_ | refine bN ?_ _ | refine bA ?_ _ | refine bS ?_ _))
 have cA021 := ck e21 cA020
 have cA121 := ck e21 cA120
 have cA221 := ck e21 cA220
 have cA321 := ck e21 cA320
 have cxA021 := ck e21 cxA020
 have cxA121 := ck e21 cxA120
 have cxA221 := ck e21 cxA220
 have cxA321 := ck e21 cxA320
 have tA21 := tA20.keep e21 (by omega)
 have tX21 := tX20.keep e21 (by omega)
 have tW21 := tW20.keep e21 (by omega)
 have txA21 := txA20.keep e21 (by omega)
 have txX21 := txX20.keep e21 (by omega)
 have tG21 := tG20.keep e21 (by omega)
 have tyX21 := q20.keep e21 (by omega)
 clear hw21 lcA020 lcxA020 cA020 cA120 cA220 cA320 cxA020 cxA120 cxA220 cxA320 tA20 tX20 tW20 txA20 txX20 tG20
 refine (eqNums_any _ _ _ _ _ _ _ _ _ _ _ txX21 tyX21 (by omega) (by omega)).mono ?_; rw [dec_self]; rintro e w22 ⟨rfl, f22⟩
 have b22 := b21.trans (f22.mono (by omega))
 have z22 := f22.size
 have cA022 := ck f22 cA021
 have cA122 := ck f22 cA121
 have cA222 := ck f22 cA221
 have cA322 := ck f22 cA321
 have cxA022 := ck f22 cxA021
 have cxA122 := ck f22 cxA121
 have cxA222 := ck f22 cxA221
 have cxA322 := ck f22 cxA321
 have tA22 := tA21.keep f22 (by omega)
 have tX22 := tX21.keep f22 (by omega)
 have tW22 := tW21.keep f22 (by omega)
 have txA22 := txA21.keep f22 (by omega)
 have txX22 := txX21.keep f22 (by omega)
 have tG22 := tG21.keep f22 (by omega)
 have tyX22 := tyX21.keep f22 (by omega)
 clear cA021 cA121 cA221 cA321 cxA021 cxA121 cxA221 cxA321 tA21 tX21 tW21 txA21 txX21 tG21 tyX21
 clear tyX22
 have lcA022 : w.heap.size < w22.heap.size := blt cA022
 have lcxA022 : w10.heap.size < w22.heap.size := blt cxA022
 go_wp2_with fail
 refine name_call fun w23 hw23 => ?_
 have b23 : Below w.heap.size w w23 := by rw [hw23]; (repeat (with_reducible first | exact bR _ _ | assumption | refine bD ?_ | refine bN ?_ _ | refine bA ?_ _ | refine bS ?_ _))
 have z23 : w22.heap.size + 0 ≤ w23.heap.size := by rw [hw23]; simp
 have e23 : Below w22.heap.size w22 w23 := by rw [hw23]; (repeat (with_reducible first | exact bR _ _ | assumption | refine bD ?_ | refine bN ?_ _ | refine bA ?_ _ | refine bS ?_ _))
 have cA023 := ck e23 cA022
 have cA123 := ck e23 cA122
 have cA223 := ck e23 cA222
 have cA323 := ck e23 cA322
 have cxA023 := ck e23 cxA022
 have cxA123 := ck e23 cxA122
 have cxA223 := ck e23 cxA222
 have cxA323 := ck e23 cxA322
 have tA23 := tA22.keep e23 (by omega)
 have tX23 := tX22.keep e23 (by omega)
 have tW23 := tW22.keep e23 (by omega)
 have txA23 := txA22.keep e23 (by omega)
 have txX23 := txX22.keep e23 (by omega)
 have tG23 := tG22.keep e23 (by omega)
 clear hw23 lcA022 lcxA022 cA022 cA122 cA222 cA322 cxA022 cxA122 cxA222 cxA322 tA22 tX22 tW22 txA22 txX22 tG22
 refine (markSys_any _ _ _ _ _ _ sA (1) _ txA23 (by omega) (by omega)).mono ?_; rintro e w24 ⟨rfl, f24, q24⟩
 have d24 : Below w.heap.size w23 w24 := f24.below (by omega) (by omega)
 have b24 := b23.trans d24
 have z24 := f24.size
 have cA024 := (f24.cell (b := w.heap.size) (by omega) (by omega) 0).trans cA023
 have cA124 := (f24.cell (b := w.heap.size) (by omega) (by omega) 1).trans cA123
 have cA224 := (f24.cell (b := w.heap.size) (by omega) (by omega) 2).trans cA223
 have cA324 := (f24.cell (b := w.heap.size) (by omega) (by omega) 3).trans cA323
 have cxA024 := (f24.cell (b := w10.heap.size) (by omega) (by omega) 0).trans cxA023
 have cxA124 := (f24.cell (b := w10.heap.size) (by omega) (by omega) 1).trans cxA123
 have cxA224 := (f24.cell (b := w10.heap.size) (by omega) (by omega) 2).trans cxA223
 have cxA324 := (f24.cell (b := w10.heap.size) (by omega) (by omega) 3).trans cxA323
 have tA24 := tA23.keep d24 (Nat.le_refl _)
 have tX24 := tX23.keep d24 (Nat.le_refl _)
 have tW24 := tW23.only f24 (by omega) (by omega)
 have txX24 := txX23.only f24 (by omega) (by omega)
 have tG24 := tG23.only f24 (by omega) (by omega)
 clear cA023 cA123 cA223 cA323 cxA023 cxA123 cxA223 cxA323 tA23 tX23 tW23 txA23 txX23 tG23
 have lcA024 : w.heap.size < w24.heap.size := blt cA024
 have lcxA024 : w10.heap.size < w24.heap.size := blt cxA024
 go_wp2_with fail
 refine name_call fun w25 hw25 => ?_
 have b25 : Below w.heap.size w w25 := by rw [hw25]; (repeat (with_reducible first | exact bR _ _ | assumption | refine bD ?_ | refine bN ?_ _ | refine bA ?_ _ | refine bS ?_ _))
 have z25 : w24.heap.size + 0 ≤ w25.heap.size := by rw [hw25]; simp
 have e25 : Below w24.heap.size w24 w25 := by rw [hw25]; (repeat (with_reducible first | exact bR _ _ | assumption | refine bD ?_ | refine bN ?_ _ | refine bA ?_ _ | refine bS ?_ _))
 have cA025 := ck e25 cA024
 have cA125 := ck e25 cA124
 have cA225 := ck e25 cA224
 have cA325 := ck e25 cA324
 have cxA025 := ck e25 cxA024
 have cxA125 := ck e25 cxA124
 have cxA225 := ck e25 cxA224
 have cxA325 := ck e25 cxA324
 have tA25 := tA24.keep e25 (by omega)
 have tX25 := tX24.keep e25 (by omega)
 have tW25 := tW24.keep e25 (by omega)
 have txA25 := q24.keep e25 (by omega)
 have txX25 := txX24.keep e25 (by omega)
 have tG25 := tG24.keep e25 (by omega)
 clear hw25 lcA024 lcxA024 cA024 cA124 cA224 cA324 cxA024 cxA124 cxA224 cxA324 tA24 tX24 tW24 txX24 tG24
 refine (markNums_any _ _ _ _ (1 + totS sA) _ txX25 (by omega) (by omega) (by omega)).mono ?_; rintro e w26 ⟨rfl, f26, q26⟩
 have d26 : Below w.heap.size w25 w26 := f26.below (by omega) (by omega)
 have b26 := b25.trans d26
 have z26 := f26.size
 have cA026 := (f26.cell (b := w.heap.size) (by omega) (by omega) 0).trans cA025
 have cA126 := (f26.cell (b := w.heap.size) (by omega) (by omega) 1).trans cA125
 have cA226 := (f26.cell (b := w.heap.size) (by omega) (by omega) 2).trans cA225
 have cA326 := (f26.cell (b := w.heap.size) (by omega) (by omega) 3).trans cA325
 have cxA026 := (f26.cell (b := w10.heap.size) (by omega) (by omega) 0).trans cxA025
 have cxA126 := (f26.cell (b := w10.heap.size) (by omega) (by omega) 1).trans cxA125
 have cxA226 := (f26.cell (b := w10.heap.size) (by omega) (by omega) 2).trans cxA225
 have cxA326 := (f26.cell (b := w10.heap.size) (by omega) (by omega) 3).trans cxA325
 have tA26 := tA25.keep d26 (Nat.le_refl _)
 have tX26 := tX25.keep d26 (Nat.le_refl _)
 have tW26 := tW25.only f26 (by omega) (by omega)
 have txA26 := txA25.only f26 (by omega) (by omega)
 have tG26 := tG25.only f26 (by omega) (by omega)
 clear cA025 cA125 cA225 cA325 cxA025 cxA125 cxA225 cxA325 tA25 tX25 tW25 txA25 txX25 tG25
 have lcA026 : w.heap.size < w26.heap.size := blt cA026
 have lcxA026 : w10.heap.size < w26.heap.size := blt cxA026
 go_wp2_with fail
 refine name_call fun w27 hw27 => ?_
 have b27 : Below w.heap.size w w27 := by rw [hw27]; (repeat (with_reducible first | exact bR _ _ | assumption | refine bD ?_ | refine bN ?_ _ | refine bA ?_ _ | refine bS ?_ _))
 have z27 : w26.heap.size + 0 ≤ w27.heap.size := by rw [hw27]; simp
 have e27 : Below w26.heap.size w26 w27 := by rw [hw27]; (repeat (with_reducible first | exact bR _ _ | assumption | refine bD ?_ | refine bN ?_ _ | refine bA ?_ _ | refine bS ?_ _))
 have cA027 := ck e27 cA026
 have cA127 := ck e27 cA126
 have cA227 := ck e27 cA226
 have cA327 := ck e27 cA326
 have cxA027 := ck e27 cxA026
 have cxA127 := ck e27 cxA126
 have cxA227 := ck e27 cxA226
 have cxA327 := ck e27 cxA326
 have tA27 := tA26.keep e27 (by omega)
 have tX27 := tX26.keep e27 (by omega)
 have tW27 := tW26.keep e27 (by omega)
 have txA27 := txA26.keep e27 (by omega)
 have txX27 := q26.keep e27 (by omega)
 have tG27 := tG26.keep e27 (by omega)
 clear hw27 lcA026 lcxA026 cA026 cA126 cA226 cA326 cxA026 cxA126 cxA226 cxA326 tA26 tX26 tW26 txA26 tG26
 refine (eqNums_any _ _ _ _ _ _ _ _ _ _ _ tG27 tW27 (by omega) (by omega)).mono ?_; rw [dec_self]; rintro e w28 ⟨rfl, f28⟩
 have b28 := b27.trans (f28.mono (by omega))
 have z28 := f28.size
 have cA028 := ck f28 cA027
 have cA128 := ck f28 cA127
 have cA228 := ck f28 cA227
 have cA328 := ck f28 cA327
 have cxA028 := ck f28 cxA027
 have cxA128 := ck f28 cxA127
 have cxA228 := ck f28 cxA227
 have cxA328 := ck f28 cxA327
 have tA28 := tA27.keep f28 (by omega)
 have tX28 := tX27.keep f28 (by omega)
 have tW28 := tW27.keep f28 (by omega)
 have txA28 := txA27.keep f28 (by omega)
 have txX28 := txX27.keep f28 (by omega)
 have tG28 := tG27.keep f28 (by omega)
 clear cA027 cA127 cA227 cA327 cxA027 cxA127 cxA227 cxA327 tA27 tX27 tW27 txA27 txX27 tG27
 clear txA28
 clear txX28
 clear cxA028
 clear cxA128
 clear cxA228
 clear cxA328
 have lcA028 : w.heap.size < w28.heap.size := blt cA028
 go_wp2_with fail
 refine name_call fun w29 hw29 => ?_
 have b29 : Below w.heap.size w w29 := by rw [hw29]; (repeat (with_reducible first | exact bR _ _ | assumption | refine bD ?_ | refine bN ?_ _ | refine bA ?_ _ | refine bS ?_ _))
 have z29 : w28.heap.size + 0 ≤ w29.heap.size := by rw [hw29]; simp
 have e29 : Below w28.heap.size w28 w29 := by rw [hw29]; (repeat (with_reducible first | exact bR _ _ | assumption | refine bD ?_ | refine bN ?_ _ | refine bA ?_ _ | refine bS ?_ _))
 have cA029 := ck e29 cA028
 have cA129 := ck e29 cA128
 have cA229 := ck e29 cA228
 have cA329 := ck e29 cA328
 have tA29 := tA28.keep e29 (by omega)
 have tX29 := tX28.keep e29 (by omega)
 have tW29 := tW28.keep e29 (by omega)
 have tG29 := tG28.keep e29 (by omega)
 clear hw29 lcA028 cA028 cA128 cA228 cA328 tA28 tX28 tW28 tG28
 refine (markNums_any _ _ _ _ 1 _ tG29 (by omega) (by omega) (by omega)).mono ?_; rintro e w30 ⟨rfl, f30, q30⟩
 have d30 : Below w.heap.size w29 w30 := f30.below (by omega) (by omega)
 have b30 := b29.trans d30
 have z30 := f30.size
 have cA030 := (f30.cell (b := w.heap.size) (by omega) (by omega) 0).trans cA029
 have cA130 := (f30.cell (b := w.heap.size) (by omega) (by omega) 1).trans cA129
 have cA230 := (f30.cell (b := w.heap.size) (by omega) (by omega) 2).trans cA229
 have cA330 := (f30.cell (b := w.heap.size) (by omega) (by omega) 3).trans cA329
 have tA30 := tA29.keep d30 (Nat.le_refl _)
 have tX30 := tX29.keep d30 (Nat.le_refl _)
 have tW30 := tW29.only f30 (by omega) (by omega)
 clear cA029 cA129 cA229 cA329 tA29 tX29 tW29 tG29
 have lcA030 : w.heap.size < w30.heap.size := blt cA030
 go_wp2_with fail
 refine name_call fun w31 hw31 => ?_
 have b31 : Below w.heap.size w w31 := by rw [hw31]; (repeat (with_reducible first | exact bR _ _ | assumption | refine bD ?_ | refine bN ?_ _ | refine bA ?_ _ | refine bS ?_ _))
 have z31 : w30.heap.size + 0 ≤ w31.heap.size := by rw [hw31]; simp
 have e31 : Below w30.heap.size w30 w31 := by rw [hw31]; (repeat (with_reducible first | exact bR _ _ | assumption | refine bD ?_ | refine bN ?_ _ | refine bA ?_ _ | refine bS ?_ _))
 have cA031 := ck e31 cA030
 have cA131 := ck e31 cA130
 have cA231 := ck e31 cA230
 have cA331 := ck e31 cA330
 have tA31 := tA30.keep e31 (by omega)
 have tX31 := tX30.keep e31 (by omega)
 have tW31 := tW30.keep e31 (by omega)
 have tG31 := q30.keep e31 (by omega)
 clear hw31 lcA030 cA030 cA130 cA230 cA330 tA30 tX30 tW30
 refine (heldNums_any _ _ _ _ _ 1 _ tG31 (by omega) (by omega) (by omega)).mono ?_; rintro e w32 ⟨rfl, f32⟩
 have b32 := b31.trans (f32.mono (by omega))
 have z32 := f32.size
 have cA032 := ck f32 cA031
 have cA132 := ck f32 cA131
 have cA232 := ck f32 cA231
 have cA332 := ck f32 cA331
 have tA32 := tA31.keep f32 (by omega)
 have tX32 := tX31.keep f32 (by omega)
 have tW32 := tW31.keep f32 (by omega)
 have tG32 := tG31.keep f32 (by omega)
 clear cA031 cA131 cA231 cA331 tA31 tX31 tW31 tG31
 have lcA032 : w.heap.size < w32.heap.size := blt cA032
 go_wp2_with fail
 refine name_call fun w33 hw33 => ?_
 have b33 : Below w.heap.size w w33 := by rw [hw33]; (repeat (with_reducible first | exact bR _ _ | assumption | refine bD ?_ | refine bN ?_ _ | refine bA ?_ _ | refine bS ?_ _))
 have z33 : w32.heap.size + 0 ≤ w33.heap.size := by rw [hw33]; simp
 have e33 : Below w32.heap.size w32 w33 := by rw [hw33]; (repeat (with_reducible first | exact bR _ _ | assumption | refine bD ?_ | refine bN ?_ _ | refine bA ?_ _ | refine bS ?_ _))
 have cA033 := ck e33 cA032
 have cA133 := ck e33 cA132
 have cA233 := ck e33 cA232
 have cA333 := ck e33 cA332
 have tA33 := tA32.keep e33 (by omega)
 have tX33 := tX32.keep e33 (by omega)
 have tW33 := tW32.keep e33 (by omega)
 have tG33 := tG32.keep e33 (by omega)
 clear hw33 lcA032 cA032 cA132 cA232 cA332 tA32 tX32 tW32 tG32
 refine (toSys_any false 0 w.heap.size _ _ _ _ sA _ tA33 (by omega) hlA).mono ?_; rintro e w34 ⟨uonA, uhnA, ucnA, rfl, f34, q34⟩
 have b34 := b33.trans (f34.mono (by omega))
 have z34 := f34.size
 have cA034 := ck f34 cA033
 have cA134 := ck f34 cA133
 have cA234 := ck f34 cA233
 have cA334 := ck f34 cA333
 have tA34 := tA33.keep f34 (by omega)
 have tX34 := tX33.keep f34 (by omega)
 have tW34 := tW33.keep f34 (by omega)
 have tG34 := tG33.keep f34 (by omega)
 clear cA033 cA133 cA233 cA333 tA33 tX33 tW33 tG33
 obtain ⟨aonA, konA, ahnA, khnA, acnA, kcnA, -, rfl, rfl, rfl, lonA, bonA, lhnA, bhnA, lcnA, bcnA, -⟩ := q34.shape
 have lcA034 : w.heap.size < w34.heap.size := blt cA034
 go_wp2_with fail
 refine name_call fun w35 hw35 => ?_
 have b35 : Below w.heap.size w w35 := by rw [hw35]; (repeat (with_reducible first | exact bR _ _ | assumption | refine bD ?_ | refine bN ?_ _ | refine bA ?_ _ | refine bS ?_ _))
 have z35 : w34.heap.size + 0 ≤ w35.heap.size := by rw [hw35]; simp
 have e35 : Below w34.heap.size w34 w35 := by rw [hw35]; (repeat (with_reducible first | exact bR _ _ | assumption | refine bD ?_ | refine bN ?_ _ | refine bA ?_ _ | refine bS ?_ _))
 have cA035 := ck e35 cA034
 have cA135 := ck e35 cA134
 have cA235 := ck e35 cA234
 have cA335 := ck e35 cA334
 have tA35 := tA34.keep e35 (by omega)
 have tX35 := tX34.keep e35 (by omega)
 have tW35 := tW34.keep e35 (by omega)
 have tG35 := tG34.keep e35 (by omega)
 have tnA35 := q34.keep e35 (by omega)
 clear hw35 lcA034 cA034 cA134 cA234 cA334 tA34 tX34 tW34 tG34
 refine (toIntS_own _ _ _ _ tX35 (by omega) (by omega)).mono ?_; rintro e w36 ⟨unX, rfl, f36, q36⟩
 have b36 := b35.trans (f36.mono (by omega))
 have z36 := f36.size
 have cA036 := ck f36 cA035
 have cA136 := ck f36 cA135
 have cA236 := ck f36 cA235
 have cA336 := ck f36 cA335
 have tA36 := tA35.keep f36 (by omega)
 have tX36 := tX35.keep f36 (by omega)
 have tW36 := tW35.keep f36 (by omega)
 have tG36 := tG35.keep f36 (by omega)
 have tnA36 := tnA35.keep f36 (by omega)
 clear cA035 cA135 cA235 cA335 tA35 tX35 tW35 tG35 tnA35
 obtain ⟨anX, knX, rfl, lanX, banX⟩ := q36.shape
 have lcA036 : w.heap.size < w36.heap.size := blt cA036
 go_wp2_with fail
 refine name_call fun w37 hw37 => ?_
 have b37 : Below w.heap.size w w37 := by rw [hw37]; (repeat (with_reducible first | exact bR _ _ | assumption | refine bD ?_ | refine bN ?_ _ | refine bA ?_ _ | refine bS ?_ _))
 have z37 : w36.heap.size + 0 ≤ w37.heap.size := by rw [hw37]; simp
 have e37 : Below w36.heap.size w36 w37 := by rw [hw37]; (repeat (with_reducible first | exact bR _ _ | assumption | refine bD ?_ | refine bN ?_ _ | refine bA ?_ _ | refine bS ?_ _))
 have cA037 := ck e37 cA036
 have cA137 := ck e37 cA136
 have cA237 := ck e37 cA236
 have cA337 := ck e37 cA336
 have tA37 := tA36.keep e37 (by omega)
 have tX37 := tX36.keep e37 (by omega)
 have tW37 := tW36.keep e37 (by omega)
 have tG37 := tG36.keep e37 (by omega)
 have tnA37 := tnA36.keep e37 (by omega)
 have tnX37 := q36.keep e37 (by omega)
 clear hw37 lcA036 cA036 cA136 cA236 cA336 tA36 tX36 tW36 tG36 tnA36
 refine (solve_impl _ _ _ _ _ _ _ sA _ _ tsX _ tnA37 (by omega) tnX37.ints (by omega) hlX nH nO nC).mono ?_; rintro e w38 ⟨uH, rfl, f38, q38⟩
 have b38 := b37.trans (f38.mono (by omega))
 have z38 := f38.size
 have cA038 := ck f38 cA037
 have cA138 := ck f38 cA137
 have cA238 := ck f38 cA237
 have cA338 := ck f38 cA337
 have tA38 := tA37.keep f38 (by omega)
 have tX38 := tX37.keep f38 (by omega)
 have tW38 := tW37.keep f38 (by omega)
 have tG38 := tG37.keep f38 (by omega)
 have tnA38 := tnA37.keep f38 (by omega)
 have tnX38 := tnX37.keep f38 (by omega)
 clear cA037 cA137 cA237 cA337 tA37 tX37 tW37 tG37 tnA37 tnX37
 obtain ⟨aH, kH, rfl, laH, baH⟩ := q38.shape
 clear tnA38
 clear tnX38
 have lcA038 : w.heap.size < w38.heap.size := blt cA038
 go_wp2_with fail
 refine name_call fun w39 hw39 => ?_
 have b39 : Below w.heap.size w w39 := by rw [hw39]; (repeat (with_reducible first | exact bR _ _ | assumption | refine bD ?_ | refine bN ?_ _ | refine bA ?_ _ | refine bS ?_ _))
 have z39 : w38.heap.size + 0 ≤ w39.heap.size := by rw [hw39]; simp
 have e39 : Below w38.heap.size w38 w39 := by rw [hw39]; (repeat (with_reducible first | exact bR _ _ | assumption | refine bD ?_ | refine bN ?_ _ | refine bA ?_ _ | refine bS ?_ _))
 have cA039 := ck e39 cA038
 have cA139 := ck e39 cA138
 have cA239 := ck e39 cA238
 have cA339 := ck e39 cA338
 have tA39 := tA38.keep e39 (by omega)
 have tX39 := tX38.keep e39 (by omega)
 have tW39 := tW38.keep e39 (by omega)
 have tG39 := tG38.keep e39 (by omega)
 have tH39 := q38.keep e39 (by omega)
 clear hw39 lcA038 cA038 cA138 cA238 cA338 tA38 tX38 tW38 tG38
 refine (eqNums_any _ _ _ _ _ _ _ _ _ _ _ tH39 tW39 (by omega) (by omega)).mono ?_; rw [dec_self]; rintro e w40 ⟨rfl, f40⟩
 have b40 := b39.trans (f40.mono (by omega))
 have z40 := f40.size
 have cA040 := ck f40 cA039
 have cA140 := ck f40 cA139
 have cA240 := ck f40 cA239
 have cA340 := ck f40 cA339
 have tA40 := tA39.keep f40 (by omega)
 have tX40 := tX39.keep f40 (by omega)
 have tW40 := tW39.keep f40 (by omega)
 have tG40 := tG39.keep f40 (by omega)
 have tH40 := tH39.keep f40 (by omega)
 clear cA039 cA139 cA239 cA339 tA39 tX39 tW39 tG39 tH39
 have lcA040 : w.heap.size < w40.heap.size := blt cA040
 go_wp2_with fail
 refine name_call fun w41 hw41 => ?_
 have b41 : Below w.heap.size w w41 := by rw [hw41]; (repeat (with_reducible first | exact bR _ _ | assumption | refine bD ?_ | refine bN ?_ _ | refine bA ?_ _ | refine bS ?_ _))
 have z41 : w40.heap.size + 0 ≤ w41.heap.size := by rw [hw41]; simp
 have e41 : Below w40.heap.size w40 w41 := by rw [hw41]; (repeat (with_reducible first | exact bR _ _ | assumption | refine bD ?_ | refine bN ?_ _ | refine bA ?_ _ | refine bS ?_ _))
 have cA041 := ck e41 cA040
 have cA141 := ck e41 cA140
 have cA241 := ck e41 cA240
 have cA341 := ck e41 cA340
 have tA41 := tA40.keep e41 (by omega)
 have tX41 := tX40.keep e41 (by omega)
 have tW41 := tW40.keep e41 (by omega)
 have tG41 := tG40.keep e41 (by omega)
 have tH41 := tH40.keep e41 (by omega)
 clear hw41 lcA040 cA040 cA140 cA240 cA340 tA40 tX40 tW40 tG40 tH40
 refine (heldNums_any _ _ _ _ _ 1 _ tG41 (by omega) (by omega) (by omega)).mono ?_; rintro e w42 ⟨rfl, f42⟩
 have b42 := b41.trans (f42.mono (by omega))
 have z42 := f42.size
 have cA042 := ck f42 cA041
 have cA142 := ck f42 cA141
 have cA242 := ck f42 cA241
 have cA342 := ck f42 cA341
 have tA42 := tA41.keep f42 (by omega)
 have tX42 := tX41.keep f42 (by omega)
 have tW42 := tW41.keep f42 (by omega)
 have tG42 := tG41.keep f42 (by omega)
 have tH42 := tH41.keep f42 (by omega)
 clear cA041 cA141 cA241 cA341 tA41 tX41 tW41 tG41 tH41
 go_wp2_with fail
 go_ret
 exact ⟨rfl, b42⟩
end Go.Proofs.YthipgpbapdambaaGreat.L
