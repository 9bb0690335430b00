/- Exact laws of layer 6 (written by tools/lawdfa.py): the program's function and its model return the same, write into no argument, and own what they return. -/
import Derived.Test.YtcinpoeapbgnhaaDfaRun
namespace Go.Proofs.Ytcinpoeapbgnhaa.L
open Go.RowKit Go.Proofs.Ytcinpoeapbgnhaa.S
set_option linter.unusedVariables false
set_option linter.unusedSimpArgs false

set_option maxRecDepth 100000 in
set_option maxHeartbeats 6400000 in
theorem law_FnExactRuns (vnA vaA : Value) (dA : DfaC) (vX : Value) (tsX : List Int) (w : World) (hA : DfaR false 0 w.heap.size w vnA vaA dA) (hX : Byts false 0 w.heap.size w vX tsX) (hbX : bytesIn tsX)  :
    Calls Try.prog 6 #[.agg #[vnA, vaA], vX] w fun e w' => e = .returned (.bool true) ∧ Below w.heap.size w w' := by
  obtain ⟨anA, knA, aaA, kaA, rfl, rfl, lnA, bnA, laA, baA⟩ := hA.shape
  obtain ⟨aX, kX, rfl, laX, baX⟩ := hX.shape
  by_cases hlX : tsX.length ≤ 1048576
  case' neg =>
    go_enter Try.func6, Try.ntmps6
    go_wp2_with fail
    go_ret
    exact ⟨rfl, by (repeat (with_reducible first | exact bR _ _ | assumption | refine bD ?_ | refine bN ?_ _ | refine bA ?_ _ | refine bS ?_ _))⟩
  by_cases hlA : szD dA ≤ 1048576
  case' neg =>
    go_enter Try.func6, Try.ntmps6
    go_wp2_with fail
    refine name_call fun w1 hw1 => ?_
    have b1 : Below w.heap.size w w1 := by rw [hw1]; (repeat (with_reducible first | exact bR _ _ | assumption | refine bD ?_ | refine bN ?_ _ | refine bA ?_ _ | refine bS ?_ _))
    have z1 : w.heap.size + 1 ≤ w1.heap.size := by rw [hw1]; simp
    have e1 : Below w.heap.size w w1 := by rw [hw1]; (repeat (with_reducible first | exact bR _ _ | assumption | refine bD ?_ | refine bN ?_ _ | refine bA ?_ _ | refine bS ?_ _))
    have cA01 : w1.cell? ⟨w.heap.size, 0, none⟩ = some (.slice anA dA.next.length knA) := by rw [hw1]; first | (simp; done) | go_simp
    have cA11 : w1.cell? ⟨w.heap.size, 1, none⟩ = some (.slice aaA dA.acc.length kaA) := by rw [hw1]; first | (simp; done) | go_simp
    have tA1 := hA.keep e1 (by omega)
    have tX1 := hX.keep e1 (by omega)
    clear hw1
    refine (szDfa_no false 0 w.heap.size _ _ dA 1048576 _ tA1 (by omega) (by omega) (by omega) (by omega)).mono ?_; rintro e w2 ⟨rfl, f2⟩
    have b2 := b1.trans (f2.mono (by omega))
    have z2 := f2.size
    have cA02 := ck f2 cA01
    have cA12 := ck f2 cA11
    have tA2 := tA1.keep f2 (by omega)
    have tX2 := tX1.keep f2 (by omega)
    clear cA01 cA11 tA1 tX1
    go_wp2_with fail
    go_ret
    exact ⟨rfl, b2⟩
  have q0 : 0 ≤ (1048576 : Int) - (szD dA : Nat) := by omega
  have hTA : totD dA ≤ 1048576 := by have : tot fI dA.next = tot List.length dA.next := rfl; unfold totD; unfold szD szIs at hlA; omega
  go_enter Try.func6, Try.ntmps6
  go_wp2_with fail
  refine name_call fun w1 hw1 => ?_
  have b1 : Below w.heap.size w w1 := by rw [hw1]; (repeat (with_reducible first | exact bR _ _ | assumption | refine bD ?_ | refine bN ?_ _ | refine bA ?_ _ | refine bS ?_ _))
  have z1 : w.heap.size + 1 ≤ w1.heap.size := by rw [hw1]; simp
  have e1 : Below w.heap.size w w1 := by rw [hw1]; (repeat (with_reducible first | exact bR _ _ | assumption | refine bD ?_ | refine bN ?_ _ | refine bA ?_ _ | refine bS ?_ _))
  have cA01 : w1.cell? ⟨w.heap.size, 0, none⟩ = some (.slice anA dA.next.length knA) := by rw [hw1]; first | (simp; done) | go_simp
  have cA11 : w1.cell? ⟨w.heap.size, 1, none⟩ = some (.slice aaA dA.acc.length kaA) := by rw [hw1]; first | (simp; done) | go_simp
  have tA1 := hA.keep e1 (by omega)
  have tX1 := hX.keep e1 (by omega)
  clear hw1
  refine (szDfa_ok false 0 w.heap.size _ _ dA 1048576 _ tA1 (by omega) (by omega) (by omega) (by omega)).mono ?_; rintro e w2 ⟨rfl, f2⟩
  have b2 := b1.trans (f2.mono (by omega))
  have z2 := f2.size
  have cA02 := ck f2 cA01
  have cA12 := ck f2 cA11
  have tA2 := tA1.keep f2 (by omega)
  have tX2 := tX1.keep f2 (by omega)
  clear cA01 cA11 tA1 tX1
  have lcA02 : w.heap.size < w2.heap.size := blt cA02
  go_wp2_with fail
  refine name_call fun w3 hw3 => ?_
  have b3 : Below w.heap.size w w3 := by rw [hw3]; (repeat (with_reducible first | exact bR _ _ | assumption | refine bD ?_ | refine bN ?_ _ | refine bA ?_ _ | refine bS ?_ _))
  have z3 : w2.heap.size + 0 ≤ w3.heap.size := by rw [hw3]; simp
  have e3 : Below w2.heap.size w2 w3 := by rw [hw3]; (repeat (with_reducible first | exact bR _ _ | assumption | refine bD ?_ | refine bN ?_ _ | refine bA ?_ _ | refine bS ?_ _))
  have cA03 := ck e3 cA02
  have cA13 := ck e3 cA12
  have tA3 := tA2.keep e3 (by omega)
  have tX3 := tX2.keep e3 (by omega)
  clear hw3 lcA02 cA02 cA12 tA2 tX2
  refine (toDfa_any false 0 w.heap.size _ _ dA _ tA3 (by omega) hlA).mono ?_; rintro e w4 ⟨unmA, uamA, rfl, f4, q4⟩
  have b4 := b3.trans (f4.mono (by omega))
  have z4 := f4.size
  have cA04 := ck f4 cA03
  have cA14 := ck f4 cA13
  have tA4 := tA3.keep f4 (by omega)
  have tX4 := tX3.keep f4 (by omega)
  clear cA03 cA13 tA3 tX3
  obtain ⟨anmA, knmA, aamA, kamA, rfl, rfl, lnmA, bnmA, lamA, bamA⟩ := q4.shape
  have lcA04 : w.heap.size < w4.heap.size := blt cA04
  go_wp2_with fail
  refine name_call fun w5 hw5 => ?_
  have b5 : Below w.heap.size w w5 := by rw [hw5]; (repeat (with_reducible first | exact bR _ _ | assumption | refine bD ?_ | refine bN ?_ _ | refine bA ?_ _ | refine bS ?_ _))
  have z5 : w4.heap.size + 0 ≤ w5.heap.size := by rw [hw5]; simp
  have e5 : Below w4.heap.size w4 w5 := by rw [hw5]; (repeat (with_reducible first | exact bR _ _ | assumption | refine bD ?_ | refine bN ?_ _ | refine bA ?_ _ | refine bS ?_ _))
  have cA05 := ck e5 cA04
  have cA15 := ck e5 cA14
  have tA5 := tA4.keep e5 (by omega)
  have tX5 := tX4.keep e5 (by omega)
  have tmA5 := q4.keep e5 (by omega)
  clear hw5 lcA04 cA04 cA14 tA4 tX4
  refine (toByteS_any _ _ _ _ tsX _ tX5 (by omega) (by omega)).mono ?_; rintro e w6 ⟨umX, rfl, f6, q6⟩
  have b6 := b5.trans (f6.mono (by omega))
  have z6 := f6.size
  have cA06 := ck f6 cA05
  have cA16 := ck f6 cA15
  have tA6 := tA5.keep f6 (by omega)
  have tX6 := tX5.keep f6 (by omega)
  have tmA6 := tmA5.keep f6 (by omega)
  clear cA05 cA15 tA5 tX5 tmA5
  obtain ⟨amX, kmX, rfl, lamX, bamX⟩ := q6.shape
  have lcA06 : w.heap.size < w6.heap.size := blt cA06
  go_wp2_with fail
  refine name_call fun w7 hw7 => ?_
  have b7 : Below w.heap.size w w7 := by rw [hw7]; (repeat (with_reducible first | exact bR _ _ | assumption | refine bD ?_ | refine bN ?_ _ | refine bA ?_ _ | refine bS ?_ _))
  have z7 : w6.heap.size + 0 ≤ w7.heap.size := by rw [hw7]; simp
  have e7 : Below w6.heap.size w6 w7 := by rw [hw7]; (repeat (with_reducible first | exact bR _ _ | assumption | refine bD ?_ | refine bN ?_ _ | refine bA ?_ _ | refine bS ?_ _))
  have cA07 := ck e7 cA06
  have cA17 := ck e7 cA16
  have tA7 := tA6.keep e7 (by omega)
  have tX7 := tX6.keep e7 (by omega)
  have tmA7 := tmA6.keep e7 (by omega)
  have tmX7 := q6.keep e7 (by omega)
  clear hw7 lcA06 cA06 cA16 tA6 tX6 tmA6
  refine (runs_spec _ _ _ _ _ dA _ _ _ _ tsX _ tmA7 (by omega) tmX7 (by omega) hbX).mono ?_; rintro e w8 ⟨rfl, f8⟩
  have b8 := b7.trans (f8.mono (by omega))
  have z8 := f8.size
  have cA08 := ck f8 cA07
  have cA18 := ck f8 cA17
  have tA8 := tA7.keep f8 (by omega)
  have tX8 := tX7.keep f8 (by omega)
  have tmA8 := tmA7.keep f8 (by omega)
  have tmX8 := tmX7.keep f8 (by omega)
  clear cA07 cA17 tA7 tX7 tmA7 tmX7
  clear tmA8
  clear tmX8
  have lcA08 : w.heap.size < w8.heap.size := blt cA08
  go_wp2_with fail
  refine name_call fun w9 hw9 => ?_
  have b9 : Below w.heap.size w w9 := by rw [hw9]; (repeat (with_reducible first | exact bR _ _ | assumption | refine bD ?_ | refine bN ?_ _ | refine bA ?_ _ | refine bS ?_ _))
  have z9 : w8.heap.size + 0 ≤ w9.heap.size := by rw [hw9]; simp
  have e9 : Below w8.heap.size w8 w9 := by rw [hw9]; (repeat (with_reducible first | exact bR _ _ | assumption | refine bD ?_ | refine bN ?_ _ | refine bA ?_ _ | refine bS ?_ _))
  have cA09 := ck e9 cA08
  have cA19 := ck e9 cA18
  have tA9 := tA8.keep e9 (by omega)
  have tX9 := tX8.keep e9 (by omega)
  clear hw9 lcA08 cA08 cA18 tA8 tX8
  refine (toDfa_any false 0 w.heap.size _ _ dA _ tA9 (by omega) hlA).mono ?_; rintro e w10 ⟨unxA, uaxA, rfl, f10, q10⟩
  have b10 := b9.trans (f10.mono (by omega))
  have z10 := f10.size
  have cA010 := ck f10 cA09
  have cA110 := ck f10 cA19
  have tA10 := tA9.keep f10 (by omega)
  have tX10 := tX9.keep f10 (by omega)
  clear cA09 cA19 tA9 tX9
  obtain ⟨anxA, knxA, aaxA, kaxA, rfl, rfl, lnxA, bnxA, laxA, baxA⟩ := q10.shape
  have lcA010 : w.heap.size < w10.heap.size := blt cA010
  go_wp2_with fail
  refine name_call fun w11 hw11 => ?_
  have b11 : Below w.heap.size w w11 := by rw [hw11]; (repeat (with_reducible first | exact bR _ _ | assumption | refine bD ?_ | refine bN ?_ _ | refine bA ?_ _ | refine bS ?_ _))
  have z11 : w10.heap.size + 1 ≤ w11.heap.size := by rw [hw11]; simp
  have e11 : Below w10.heap.size w10 w11 := by rw [hw11]; (repeat (with_reducible first | exact bR _ _ | assumption | refine bD ?_ | refine bN ?_ _ | refine bA ?_ _ | refine bS ?_ _))
  have cA011 := ck e11 cA010
  have cA111 := ck e11 cA110
  have cxA011 : w11.cell? ⟨w10.heap.size, 0, none⟩ = some (.slice anxA dA.next.length knxA) := by rw [hw11]; first | (simp; done) | go_simp
  have cxA111 : w11.cell? ⟨w10.heap.size, 1, none⟩ = some (.slice aaxA dA.acc.length kaxA) := by rw [hw11]; first | (simp; done) | go_simp
  have tA11 := tA10.keep e11 (by omega)
  have tX11 := tX10.keep e11 (by omega)
  have txA11 := q10.keep e11 (by omega)
  clear hw11 lcA010 cA010 cA110 tA10 tX10
  refine (toByteS_any _ _ _ _ tsX _ tX11 (by omega) (by omega)).mono ?_; rintro e w12 ⟨uxX, rfl, f12, q12⟩
  have b12 := b11.trans (f12.mono (by omega))
  have z12 := f12.size
  have cA012 := ck f12 cA011
  have cA112 := ck f12 cA111
  have cxA012 := ck f12 cxA011
  have cxA112 := ck f12 cxA111
  have tA12 := tA11.keep f12 (by omega)
  have tX12 := tX11.keep f12 (by omega)
  have txA12 := txA11.keep f12 (by omega)
  clear cA011 cA111 cxA011 cxA111 tA11 tX11 txA11
  obtain ⟨axX, kxX, rfl, laxX, baxX⟩ := q12.shape
  have lcA012 : w.heap.size < w12.heap.size := blt cA012
  have lcxA012 : w10.heap.size < w12.heap.size := blt cxA012
  go_wp2_with fail
  refine name_call fun w13 hw13 => ?_
  have b13 : Below w.heap.size w w13 := by rw [hw13]; (repeat (with_reducible first | exact bR _ _ | assumption | refine bD ?_ | refine bN ?_ _ | refine bA ?_ _ | refine bS ?_ _))
  have z13 : w12.heap.size + 0 ≤ w13.heap.size := by rw [hw13]; simp
  have e13 : Below w12.heap.size w12 w13 := by rw [hw13]; (repeat (with_reducible first | exact bR _ _ | assumption | refine bD ?_ | refine bN ?_ _ | refine bA ?_ _ | refine bS ?_ _))
  have cA013 := ck e13 cA012
  have cA113 := ck e13 cA112
  have cxA013 := ck e13 cxA012
  have cxA113 := ck e13 cxA112
  have tA13 := tA12.keep e13 (by omega)
  have tX13 := tX12.keep e13 (by omega)
  have txA13 := txA12.keep e13 (by omega)
  have txX13 := q12.keep e13 (by omega)
  clear hw13 lcA012 lcxA012 cA012 cA112 cxA012 cxA112 tA12 tX12 txA12
  refine (runs_impl _ _ _ _ _ dA _ _ _ _ tsX _ txA13 (by omega) txX13 (by omega) hbX).mono ?_; rintro e w14 ⟨rfl, f14⟩
  have b14 := b13.trans (f14.mono (by omega))
  have z14 := f14.size
  have cA014 := ck f14 cA013
  have cA114 := ck f14 cA113
  have cxA014 := ck f14 cxA013
  have cxA114 := ck f14 cxA113
  have tA14 := tA13.keep f14 (by omega)
  have tX14 := tX13.keep f14 (by omega)
  have txA14 := txA13.keep f14 (by omega)
  have txX14 := txX13.keep f14 (by omega)
  clear cA013 cA113 cxA013 cxA113 tA13 tX13 txA13 txX13
  have lcA014 : w.heap.size < w14.heap.size := blt cA014
  have lcxA014 : w10.heap.size < w14.heap.size := blt cxA014
  go_wp2_with fail
  refine name_wp fun w15 hw15 => ?_
  have b15 : Below w.heap.size w w15 := by rw [hw15]; (repeat (with_reducible first | exact bR _ _ | assumption | refine bD ?_ | refine bN ?_ _ | refine bA ?_ _ | refine bS ?_ _))
  have z15 : w14.heap.size + 0 ≤ w15.heap.size := by rw [hw15]; simp
  have e15 : Below w14.heap.size w14 w15 := by rw [hw15]; (repeat (with_reducible first | exact bR _ _ | assumption | refine bD ?_ | refine bN ?_ _ | refine bA ?_ _ | refine bS ?_ _))
  have cA015 := ck e15 cA014
  have cA115 := ck e15 cA114
  have cxA015 := ck e15 cxA014
  have cxA115 := ck e15 cxA114
  have tA15 := tA14.keep e15 (by omega)
  have tX15 := tX14.keep e15 (by omega)
  have txA15 := txA14.keep e15 (by omega)
  have txX15 := txX14.keep e15 (by omega)
  clear hw15 lcA014 lcxA014 cA014 cA114 cxA014 cxA114 tA14 tX14 txA14 txX14
  have d15 : Below w15.heap.size w15 w15.drew := (Below.refl _ _).drew
  have zd15 : w15.heap.size ≤ w15.drew.heap.size := Nat.le_refl _
  have ze15 : w15.drew.heap.size ≤ w15.heap.size := Nat.le_refl _
  have GxA0 : w15.drew.cell? ⟨w10.heap.size, 0, none⟩ = some (.slice anxA dA.next.length knxA) := cell_keep d15 cxA015
  have GxA1 : w15.drew.cell? ⟨w10.heap.size, 1, none⟩ = some (.slice aaxA dA.acc.length kaxA) := cell_keep d15 cxA115
  have GA0 : w15.drew.cell? ⟨w.heap.size, 0, none⟩ = some (.slice anA dA.next.length knA) := cell_keep d15 cA015
  have GA1 : w15.drew.cell? ⟨w.heap.size, 1, none⟩ = some (.slice aaA dA.acc.length kaA) := cell_keep d15 cA115
  have UA := tA15.keep d15 (by omega)
  have UxA := txA15.keep d15 (by omega)
  go_region_held3 (fun w' => w'.cell? ⟨w10.heap.size, 0, none⟩ = some (.slice anxA dA.next.length knxA) ∧ w'.cell? ⟨w10.heap.size, 1, none⟩ = some (.slice aaxA dA.acc.length kaxA) ∧ w'.cell? ⟨w.heap.size, 0, none⟩ = some (.slice anA dA.next.length knA) ∧ w'.cell? ⟨w.heap.size, 1, none⟩ = some (.slice aaA dA.acc.length kaA)) (first | exact ⟨GxA0, GxA1, GA0, GA1⟩ | exact ⟨cell_keep j1 GxA0, cell_keep j1 GxA1, cell_keep j1 GA0, cell_keep j1 GA1⟩ | exact ⟨cell_keep j2 (cell_keep j1 GxA0), cell_keep j2 (cell_keep j1 GxA1), cell_keep j2 (cell_keep j1 GA0), cell_keep j2 (cell_keep j1 GA1)⟩)
    (first
      | (go_at_call 12; refine (toDfa_any false 0 w.heap.size _ _ dA w15.drew UA (by omega) hlA).mono ?_; rintro e v1 ⟨un1, ua1, rfl, j1, q1⟩; obtain ⟨an1, kn1, aa1, ka1, rfl, rfl, ln1, bn1, la1, ba1⟩ := q1.shape; have s1 := j1.size)
      | (go_at_call 14; refine (eqDfa_same _ _ _ _ _ _ _ _ _ _ dA v1 (UxA.keep j1 (by omega)) q1 (by omega) (Nat.le_refl _)).mono ?_; rintro e v2 ⟨rfl, j2⟩))
  have s2 := j2.size
  have f16 : Below w15.heap.size w15 v2 := (d15.trans (j1.mono (by omega))).trans (j2.mono (by omega))
  have b16 := b15.trans (f16.mono (by omega))
  have z16 := f16.size
  have cA016 := cell_keep f16 cA015
  have cA116 := cell_keep f16 cA115
  have cxA016 := cell_keep f16 cxA015
  have cxA116 := cell_keep f16 cxA115
  have tA16 := tA15.keep f16 (by omega)
  have tX16 := tX15.keep f16 (by omega)
  have txA16 := txA15.keep f16 (by omega)
  have txX16 := txX15.keep f16 (by omega)
  clear cA015 cA115 cxA015 cxA115 tA15 tX15 txA15 txX15 GxA0 GxA1 GA0 GA1 UA UxA
  have lcA016 : w.heap.size < v2.heap.size := blt cA016
  have lcxA016 : w10.heap.size < v2.heap.size := blt cxA016
  go_wp2_with fail
  refine name_call fun w17 hw17 => ?_
  have b17 : Below w.heap.size w w17 := by rw [hw17]; (repeat (with_reducible first | exact bR _ _ | assumption | refine bD ?_ | refine bN ?_ _ | refine bA ?_ _ | refine bS ?_ _))
  have z17 : v2.heap.size + 0 ≤ w17.heap.size := by rw [hw17]; simp
  have e17 : Below v2.heap.size v2 w17 := by rw [hw17]; (repeat (with_reducible first | exact bR _ _ | assumption | refine bD ?_ | refine bN ?_ _ | refine bA ?_ _ | refine bS ?_ _))
  have cA017 := ck e17 cA016
  have cA117 := ck e17 cA116
  have cxA017 := ck e17 cxA016
  have cxA117 := ck e17 cxA116
  have tA17 := tA16.keep e17 (by omega)
  have tX17 := tX16.keep e17 (by omega)
  have txA17 := txA16.keep e17 (by omega)
  have txX17 := txX16.keep e17 (by omega)
  clear hw17 lcA016 lcxA016 cA016 cA116 cxA016 cxA116 tA16 tX16 txA16 txX16
  refine (toByteS_any _ _ _ _ tsX _ tX17 (by omega) (by omega)).mono ?_; rintro e w18 ⟨uyX, rfl, f18, q18⟩
  have b18 := b17.trans (f18.mono (by omega))
  have z18 := f18.size
  have cA018 := ck f18 cA017
  have cA118 := ck f18 cA117
  have cxA018 := ck f18 cxA017
  have cxA118 := ck f18 cxA117
  have tA18 := tA17.keep f18 (by omega)
  have tX18 := tX17.keep f18 (by omega)
  have txA18 := txA17.keep f18 (by omega)
  have txX18 := txX17.keep f18 (by omega)
  clear cA017 cA117 cxA017 cxA117 tA17 tX17 txA17 txX17
  obtain ⟨ayX, kyX, rfl, layX, bayX⟩ := q18.shape
  have lcA018 : w.heap.size < w18.heap.size := blt cA018
  have lcxA018 : w10.heap.size < w18.heap.size := blt cxA018
  go_wp2_with fail
  refine name_call fun w19 hw19 => ?_
  have b19 : Below w.heap.size w w19 := by rw [hw19]; (repeat (with_reducible first | exact bR _ _ | assumption | refine bD ?_ | refine bN ?_ _ | refine bA ?_ _ | refine bS ?_ _))
  have z19 : w18.heap.size + 0 ≤ w19.heap.size := by rw [hw19]; simp
  have e19 : Below w18.heap.size w18 w19 := by rw [hw19]; (repeat (with_reducible first | exact bR _ _ | assumption | refine bD ?_ | refine bN ?_ _ | refine bA ?_ _ | refine bS ?_ _))
  have cA019 := ck e19 cA018
  have cA119 := ck e19 cA118
  have cxA019 := ck e19 cxA018
  have cxA119 := ck e19 cxA118
  have tA19 := tA18.keep e19 (by omega)
  have tX19 := tX18.keep e19 (by omega)
  have txA19 := txA18.keep e19 (by omega)
  have txX19 := txX18.keep e19 (by omega)
  have tyX19 := q18.keep e19 (by omega)
  clear hw19 lcA018 lcxA018 cA018 cA118 cxA018 cxA118 tA18 tX18 txA18 txX18
  refine (eqByts_same _ _ _ _ _ _ _ _ _ _ txX19 tyX19 (by omega) (by omega)).mono ?_; rintro e w20 ⟨rfl, f20⟩
  have b20 := b19.trans (f20.mono (by omega))
  have z20 := f20.size
  have cA020 := ck f20 cA019
  have cA120 := ck f20 cA119
  have cxA020 := ck f20 cxA019
  have cxA120 := ck f20 cxA119
  have tA20 := tA19.keep f20 (by omega)
  have tX20 := tX19.keep f20 (by omega)
  have txA20 := txA19.keep f20 (by omega)
  have txX20 := txX19.keep f20 (by omega)
  have tyX20 := tyX19.keep f20 (by omega)
  clear cA019 cA119 cxA019 cxA119 tA19 tX19 txA19 txX19 tyX19
  clear tyX20
  go_wp2_with fail
  go_ret
  exact ⟨rfl, b20⟩
end Go.Proofs.Ytcinpoeapbgnhaa.L
