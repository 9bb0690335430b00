/- Exact laws of layer 6 (written by tools/lawdfa.py): the program's function and its model return the same, write into no argument, and own what they return. -/
import Derived.Test.YtcinpoeapbgnhaaDfaN
namespace Go.Proofs.Ytcinpoeapbgnhaa.L
open Go.RowKit Go.Proofs.Ytcinpoeapbgnhaa.S
set_option linter.unusedVariables false
set_option linter.unusedSimpArgs false

set_option maxRecDepth 100000 in
set_option maxHeartbeats 6400000 in
theorem law_FnExactAccepting (vnA vaA : Value) (dA : DfaC) (w : World) (hA : DfaR false 0 w.heap.size w vnA vaA dA)  :
    Calls Try.prog 5 #[.agg #[vnA, vaA]] w fun e w' => e = .returned (.bool true) ∧ Below w.heap.size w w' := by
  obtain ⟨anA, knA, aaA, kaA, rfl, rfl, lnA, bnA, laA, baA⟩ := hA.shape
  by_cases hlA : szD dA ≤ 1048576
  case' neg =>
    go_enter Try.func5, Try.ntmps5
    go_wp2_with fail
    refine name_call fun w1 hw1 => ?_
    have b1 : Below w.heap.size w w1 := by rw [hw1]; (repeat (with_reducible first | exact bR _ _ | assumption | refine bD ?_ | refine bN ?_ _ | refine bA ?_ _ | refine bS ?_ _))
    have z1 : w.heap.size + 1 ≤ w1.heap.size := by rw [hw1]; simp
    have e1 : Below w.heap.size w w1 := by rw [hw1]; (repeat (with_reducible first | exact bR _ _ | assumption | refine bD ?_ | refine bN ?_ _ | refine bA ?_ _ | refine bS ?_ _))
    have cA01 : w1.cell? ⟨w.heap.size, 0, none⟩ = some (.slice anA dA.next.length knA) := by rw [hw1]; first | (simp; done) | go_simp
    have cA11 : w1.cell? ⟨w.heap.size, 1, none⟩ = some (.slice aaA dA.acc.length kaA) := by rw [hw1]; first | (simp; done) | go_simp
    have tA1 := hA.keep e1 (by omega)
    clear hw1
    refine (szDfa_no false 0 w.heap.size _ _ dA 1048576 _ tA1 (by omega) (by omega) (by omega) (by omega)).mono ?_; rintro e w2 ⟨rfl, f2⟩
    have b2 := b1.trans (f2.mono (by omega))
    have z2 := f2.size
    have cA02 := ck f2 cA01
    have cA12 := ck f2 cA11
    have tA2 := tA1.keep f2 (by omega)
    clear cA01 cA11 tA1
    go_wp2_with fail
    go_ret
    exact ⟨rfl, b2⟩
  have hF : (accL dA).length ≤ 40 := accL_len dA
  have q0 : 0 ≤ (1048576 : Int) - (szD dA : Nat) := by omega
  have hTA : totD dA ≤ 1048576 := by have : tot fI dA.next = tot List.length dA.next := rfl; unfold totD; unfold szD szIs at hlA; omega
  go_enter Try.func5, Try.ntmps5
  go_wp2_with fail
  refine name_call fun w1 hw1 => ?_
  have b1 : Below w.heap.size w w1 := by rw [hw1]; (repeat (with_reducible first | exact bR _ _ | assumption | refine bD ?_ | refine bN ?_ _ | refine bA ?_ _ | refine bS ?_ _))
  have z1 : w.heap.size + 1 ≤ w1.heap.size := by rw [hw1]; simp
  have e1 : Below w.heap.size w w1 := by rw [hw1]; (repeat (with_reducible first | exact bR _ _ | assumption | refine bD ?_ | refine bN ?_ _ | refine bA ?_ _ | refine bS ?_ _))
  have cA01 : w1.cell? ⟨w.heap.size, 0, none⟩ = some (.slice anA dA.next.length knA) := by rw [hw1]; first | (simp; done) | go_simp
  have cA11 : w1.cell? ⟨w.heap.size, 1, none⟩ = some (.slice aaA dA.acc.length kaA) := by rw [hw1]; first | (simp; done) | go_simp
  have tA1 := hA.keep e1 (by omega)
  clear hw1
  refine (szDfa_ok false 0 w.heap.size _ _ dA 1048576 _ tA1 (by omega) (by omega) (by omega) (by omega)).mono ?_; rintro e w2 ⟨rfl, f2⟩
  have b2 := b1.trans (f2.mono (by omega))
  have z2 := f2.size
  have cA02 := ck f2 cA01
  have cA12 := ck f2 cA11
  have tA2 := tA1.keep f2 (by omega)
  clear cA01 cA11 tA1
  have lcA02 : w.heap.size < w2.heap.size := blt cA02
  go_wp2_with fail
  refine name_call fun w3 hw3 => ?_
  have b3 : Below w.heap.size w w3 := by rw [hw3]; (repeat (with_reducible first | exact bR _ _ | assumption | refine bD ?_ | refine bN ?_ _ | refine bA ?_ _ | refine bS ?_ _))
  have z3 : w2.heap.size + 0 ≤ w3.heap.size := by rw [hw3]; simp
  have e3 : Below w2.heap.size w2 w3 := by rw [hw3]; (repeat (with_reducible first | exact bR _ _ | assumption | refine bD ?_ | refine bN ?_ _ | refine bA ?_ _ | refine bS ?_ _))
  have cA03 := ck e3 cA02
  have cA13 := ck e3 cA12
  have tA3 := tA2.keep e3 (by omega)
  clear hw3 lcA02 cA02 cA12 tA2
  refine (toDfa_any false 0 w.heap.size _ _ dA _ tA3 (by omega) hlA).mono ?_; rintro e w4 ⟨unmA, uamA, rfl, f4, q4⟩
  have b4 := b3.trans (f4.mono (by omega))
  have z4 := f4.size
  have cA04 := ck f4 cA03
  have cA14 := ck f4 cA13
  have tA4 := tA3.keep f4 (by omega)
  clear cA03 cA13 tA3
  obtain ⟨anmA, knmA, aamA, kamA, rfl, rfl, lnmA, bnmA, lamA, bamA⟩ := q4.shape
  have lcA04 : w.heap.size < w4.heap.size := blt cA04
  go_wp2_with fail
  refine name_call fun w5 hw5 => ?_
  have b5 : Below w.heap.size w w5 := by rw [hw5]; (repeat (with_reducible first | exact bR _ _ | assumption | refine bD ?_ | refine bN ?_ _ | refine bA ?_ _ | refine bS ?_ _))
  have z5 : w4.heap.size + 0 ≤ w5.heap.size := by rw [hw5]; simp
  have e5 : Below w4.heap.size w4 w5 := by rw [hw5]; (repeat (with_reducible first | exact bR _ _ | assumption | refine bD ?_ | refine bN ?_ _ | refine bA ?_ _ | refine bS ?_ _))
  have cA05 := ck e5 cA04
  have cA15 := ck e5 cA14
  have tA5 := tA4.keep e5 (by omega)
  have tmA5 := q4.keep e5 (by omega)
  clear hw5 lcA04 cA04 cA14 tA4
  refine (accepting_spec _ _ _ _ _ dA _ tmA5 (by omega)).mono ?_; rintro e w6 ⟨uW, rfl, f6, q6⟩
  have b6 := b5.trans (f6.mono (by omega))
  have z6 := f6.size
  have cA06 := ck f6 cA05
  have cA16 := ck f6 cA15
  have tA6 := tA5.keep f6 (by omega)
  have tmA6 := tmA5.keep f6 (by omega)
  clear cA05 cA15 tA5 tmA5
  obtain ⟨aW, kW, rfl, laW, baW⟩ := q6.shape
  clear tmA6
  have lcA06 : w.heap.size < w6.heap.size := blt cA06
  go_wp2_with fail
  refine name_call fun w7 hw7 => ?_
  have b7 : Below w.heap.size w w7 := by rw [hw7]; (repeat (with_reducible first | exact bR _ _ | assumption | refine bD ?_ | refine bN ?_ _ | refine bA ?_ _ | refine bS ?_ _))
  have z7 : w6.heap.size + 0 ≤ w7.heap.size := by rw [hw7]; simp
  have e7 : Below w6.heap.size w6 w7 := by rw [hw7]; (repeat (with_reducible first | exact bR _ _ | assumption | refine bD ?_ | refine bN ?_ _ | refine bA ?_ _ | refine bS ?_ _))
  have cA07 := ck e7 cA06
  have cA17 := ck e7 cA16
  have tA7 := tA6.keep e7 (by omega)
  have tW7 := q6.keep e7 (by omega)
  clear hw7 lcA06 cA06 cA16 tA6
  refine (toDfa_any false 0 w.heap.size _ _ dA _ tA7 (by omega) hlA).mono ?_; rintro e w8 ⟨unxA, uaxA, rfl, f8, q8⟩
  have b8 := b7.trans (f8.mono (by omega))
  have z8 := f8.size
  have cA08 := ck f8 cA07
  have cA18 := ck f8 cA17
  have tA8 := tA7.keep f8 (by omega)
  have tW8 := tW7.keep f8 (by omega)
  clear cA07 cA17 tA7 tW7
  obtain ⟨anxA, knxA, aaxA, kaxA, rfl, rfl, lnxA, bnxA, laxA, baxA⟩ := q8.shape
  have lcA08 : w.heap.size < w8.heap.size := blt cA08
  go_wp2_with fail
  refine name_call fun w9 hw9 => ?_
  have b9 : Below w.heap.size w w9 := by rw [hw9]; (repeat (with_reducible first | exact bR _ _ | assumption | refine bD ?_ | refine bN ?_ _ | refine bA ?_ _ | refine bS ?_ _))
  have z9 : w8.heap.size + 1 ≤ w9.heap.size := by rw [hw9]; simp
  have e9 : Below w8.heap.size w8 w9 := by rw [hw9]; (repeat (with_reducible first | exact bR _ _ | assumption | refine bD ?_ | refine bN ?_ _ | refine bA ?_ _ | refine bS ?_ _))
  have cA09 := ck e9 cA08
  have cA19 := ck e9 cA18
  have cxA09 : w9.cell? ⟨w8.heap.size, 0, none⟩ = some (.slice anxA dA.next.length knxA) := by rw [hw9]; first | (simp; done) | go_simp
  have cxA19 : w9.cell? ⟨w8.heap.size, 1, none⟩ = some (.slice aaxA dA.acc.length kaxA) := by rw [hw9]; first | (simp; done) | go_simp
  have tA9 := tA8.keep e9 (by omega)
  have tW9 := tW8.keep e9 (by omega)
  have txA9 := q8.keep e9 (by omega)
  clear hw9 lcA08 cA08 cA18 tA8 tW8
  refine (accepting_impl _ _ _ _ _ dA _ txA9 (by omega)).mono ?_; rintro e w10 ⟨uG, rfl, f10, q10⟩
  have b10 := b9.trans (f10.mono (by omega))
  have z10 := f10.size
  have cA010 := ck f10 cA09
  have cA110 := ck f10 cA19
  have cxA010 := ck f10 cxA09
  have cxA110 := ck f10 cxA19
  have tA10 := tA9.keep f10 (by omega)
  have tW10 := tW9.keep f10 (by omega)
  have txA10 := txA9.keep f10 (by omega)
  clear cA09 cA19 cxA09 cxA19 tA9 tW9 txA9
  obtain ⟨aG, kG, rfl, laG, baG⟩ := q10.shape
  have lcA010 : w.heap.size < w10.heap.size := blt cA010
  have lcxA010 : w8.heap.size < w10.heap.size := blt cxA010
  go_wp2_with fail
  refine name_call fun w11 hw11 => ?_
  have b11 : Below w.heap.size w w11 := by rw [hw11]; (repeat (with_reducible first | exact bR _ _ | assumption | refine bD ?_ | refine bN ?_ _ | refine bA ?_ _ | refine bS ?_ _))
  have z11 : w10.heap.size + 0 ≤ w11.heap.size := by rw [hw11]; simp
  have e11 : Below w10.heap.size w10 w11 := by rw [hw11]; (repeat (with_reducible first | exact bR _ _ | assumption | refine bD ?_ | refine bN ?_ _ | refine bA ?_ _ | refine bS ?_ _))
  have cA011 := ck e11 cA010
  have cA111 := ck e11 cA110
  have cxA011 := ck e11 cxA010
  have cxA111 := ck e11 cxA110
  have tA11 := tA10.keep e11 (by omega)
  have tW11 := tW10.keep e11 (by omega)
  have txA11 := txA10.keep e11 (by omega)
  have tG11 := q10.keep e11 (by omega)
  clear hw11 lcA010 lcxA010 cA010 cA110 cxA010 cxA110 tA10 tW10 txA10
  refine (eqNums_any _ _ _ _ _ _ _ _ _ _ _ tG11 tW11 (by omega) (by omega)).mono ?_; rw [dec_self]; rintro e w12 ⟨rfl, f12⟩
  have b12 := b11.trans (f12.mono (by omega))
  have z12 := f12.size
  have cA012 := ck f12 cA011
  have cA112 := ck f12 cA111
  have cxA012 := ck f12 cxA011
  have cxA112 := ck f12 cxA111
  have tA12 := tA11.keep f12 (by omega)
  have tW12 := tW11.keep f12 (by omega)
  have txA12 := txA11.keep f12 (by omega)
  have tG12 := tG11.keep f12 (by omega)
  clear cA011 cA111 cxA011 cxA111 tA11 tW11 txA11 tG11
  have lcA012 : w.heap.size < w12.heap.size := blt cA012
  have lcxA012 : w8.heap.size < w12.heap.size := blt cxA012
  go_wp2_with fail
  refine name_wp fun w13 hw13 => ?_
  have b13 : Below w.heap.size w w13 := by rw [hw13]; (repeat (with_reducible first | exact bR _ _ | assumption | refine bD ?_ | refine bN ?_ _ | refine bA ?_ _ | refine bS ?_ _))
  have z13 : w12.heap.size + 0 ≤ w13.heap.size := by rw [hw13]; simp
  have e13 : Below w12.heap.size w12 w13 := by rw [hw13]; (repeat (with_reducible first | exact bR _ _ | assumption | refine bD ?_ | refine bN ?_ _ | refine bA ?_ _ | refine bS ?_ _))
  have cA013 := ck e13 cA012
  have cA113 := ck e13 cA112
  have cxA013 := ck e13 cxA012
  have cxA113 := ck e13 cxA112
  have tA13 := tA12.keep e13 (by omega)
  have tW13 := tW12.keep e13 (by omega)
  have txA13 := txA12.keep e13 (by omega)
  have tG13 := tG12.keep e13 (by omega)
  clear hw13 lcA012 lcxA012 cA012 cA112 cxA012 cxA112 tA12 tW12 txA12 tG12
  have d13 : Below w13.heap.size w13 w13.drew := (Below.refl _ _).drew
  have zd13 : w13.heap.size ≤ w13.drew.heap.size := Nat.le_refl _
  have ze13 : w13.drew.heap.size ≤ w13.heap.size := Nat.le_refl _
  have GxA0 : w13.drew.cell? ⟨w8.heap.size, 0, none⟩ = some (.slice anxA dA.next.length knxA) := cell_keep d13 cxA013
  have GxA1 : w13.drew.cell? ⟨w8.heap.size, 1, none⟩ = some (.slice aaxA dA.acc.length kaxA) := cell_keep d13 cxA113
  have GA0 : w13.drew.cell? ⟨w.heap.size, 0, none⟩ = some (.slice anA dA.next.length knA) := cell_keep d13 cA013
  have GA1 : w13.drew.cell? ⟨w.heap.size, 1, none⟩ = some (.slice aaA dA.acc.length kaA) := cell_keep d13 cA113
  have UA := tA13.keep d13 (by omega)
  have UxA := txA13.keep d13 (by omega)
  go_region_held3 (fun w' => w'.cell? ⟨w8.heap.size, 0, none⟩ = some (.slice anxA dA.next.length knxA) ∧ w'.cell? ⟨w8.heap.size, 1, none⟩ = some (.slice aaxA dA.acc.length kaxA) ∧ w'.cell? ⟨w.heap.size, 0, none⟩ = some (.slice anA dA.next.length knA) ∧ w'.cell? ⟨w.heap.size, 1, none⟩ = some (.slice aaA dA.acc.length kaA)) (first | exact ⟨GxA0, GxA1, GA0, GA1⟩ | exact ⟨cell_keep j1 GxA0, cell_keep j1 GxA1, cell_keep j1 GA0, cell_keep j1 GA1⟩ | exact ⟨cell_keep j2 (cell_keep j1 GxA0), cell_keep j2 (cell_keep j1 GxA1), cell_keep j2 (cell_keep j1 GA0), cell_keep j2 (cell_keep j1 GA1)⟩)
    (first
      | (go_at_call 12; refine (toDfa_any false 0 w.heap.size _ _ dA w13.drew UA (by omega) hlA).mono ?_; rintro e v1 ⟨un1, ua1, rfl, j1, q1⟩; obtain ⟨an1, kn1, aa1, ka1, rfl, rfl, ln1, bn1, la1, ba1⟩ := q1.shape; have s1 := j1.size)
      | (go_at_call 14; refine (eqDfa_same _ _ _ _ _ _ _ _ _ _ dA v1 (UxA.keep j1 (by omega)) q1 (by omega) (Nat.le_refl _)).mono ?_; rintro e v2 ⟨rfl, j2⟩))
  have s2 := j2.size
  have f14 : Below w13.heap.size w13 v2 := (d13.trans (j1.mono (by omega))).trans (j2.mono (by omega))
  have b14 := b13.trans (f14.mono (by omega))
  have z14 := f14.size
  have cA014 := cell_keep f14 cA013
  have cA114 := cell_keep f14 cA113
  have cxA014 := cell_keep f14 cxA013
  have cxA114 := cell_keep f14 cxA113
  have tA14 := tA13.keep f14 (by omega)
  have tW14 := tW13.keep f14 (by omega)
  have txA14 := txA13.keep f14 (by omega)
  have tG14 := tG13.keep f14 (by omega)
  clear cA013 cA113 cxA013 cxA113 tA13 tW13 txA13 tG13 GxA0 GxA1 GA0 GA1 UA UxA
  have lcA014 : w.heap.size < v2.heap.size := blt cA014
  have lcxA014 : w8.heap.size < v2.heap.size := blt cxA014
  go_wp2_with fail
  refine name_call fun w15 hw15 => ?_
  have b15 : Below w.heap.size w w15 := by rw [hw15]; (repeat (with_reducible first | exact bR _ _ | assumption | refine bD ?_ | refine bN ?_ _ | refine bA ?_ _ | refine bS ?_ _))
  have z15 : v2.heap.size + 0 ≤ w15.heap.size := by rw [hw15]; simp
  have e15 : Below v2.heap.size v2 w15 := by rw [hw15]; (repeat (with_reducible first | exact bR _ _ | assumption | refine bD ?_ | refine bN ?_ _ | refine bA ?_ _ | refine bS ?_ _))
  have cA015 := ck e15 cA014
  have cA115 := ck e15 cA114
  have cxA015 := ck e15 cxA014
  have cxA115 := ck e15 cxA114
  have tA15 := tA14.keep e15 (by omega)
  have tW15 := tW14.keep e15 (by omega)
  have txA15 := txA14.keep e15 (by omega)
  have tG15 := tG14.keep e15 (by omega)
  clear hw15 lcA014 lcxA014 cA014 cA114 cxA014 cxA114 tA14 tW14 txA14 tG14
  refine (markDfa_any _ _ _ _ dA (1) _ txA15 (by omega) (by omega)).mono ?_; rintro e w16 ⟨rfl, f16, q16⟩
  have d16 : Below w.heap.size w15 w16 := f16.below (by omega) (by omega)
  have b16 := b15.trans d16
  have z16 := f16.size
  have cA016 := (f16.cell (b := w.heap.size) (by omega) (by omega) 0).trans cA015
  have cA116 := (f16.cell (b := w.heap.size) (by omega) (by omega) 1).trans cA115
  have cxA016 := (f16.cell (b := w8.heap.size) (by omega) (by omega) 0).trans cxA015
  have cxA116 := (f16.cell (b := w8.heap.size) (by omega) (by omega) 1).trans cxA115
  have tA16 := tA15.keep d16 (Nat.le_refl _)
  have tW16 := tW15.only f16 (by omega) (by omega)
  have tG16 := tG15.only f16 (by omega) (by omega)
  clear cA015 cA115 cxA015 cxA115 tA15 tW15 txA15 tG15
  have lcA016 : w.heap.size < w16.heap.size := blt cA016
  have lcxA016 : w8.heap.size < w16.heap.size := blt cxA016
  go_wp2_with fail
  refine name_call fun w17 hw17 => ?_
  have b17 : Below w.heap.size w w17 := by rw [hw17]; (repeat (with_reducible first | exact bR _ _ | assumption | refine bD ?_ | refine bN ?_ _ | refine bA ?_ _ | refine bS ?_ _))
  have z17 : w16.heap.size + 0 ≤ w17.heap.size := by rw [hw17]; simp
  have e17 : Below w16.heap.size w16 w17 := by rw [hw17]; (repeat (with_reducible first | exact bR _ _ | assumption | refine bD ?_ | refine bN ?_ _ | refine bA ?_ _ | refine bS ?_ _))
  have cA017 := ck e17 cA016
  have cA117 := ck e17 cA116
  have cxA017 := ck e17 cxA016
  have cxA117 := ck e17 cxA116
  have tA17 := tA16.keep e17 (by omega)
  have tW17 := tW16.keep e17 (by omega)
  have txA17 := q16.keep e17 (by omega)
  have tG17 := tG16.keep e17 (by omega)
  clear hw17 lcA016 lcxA016 cA016 cA116 cxA016 cxA116 tA16 tW16 tG16
  refine (eqNums_any _ _ _ _ _ _ _ _ _ _ _ tG17 tW17 (by omega) (by omega)).mono ?_; rw [dec_self]; rintro e w18 ⟨rfl, f18⟩
  have b18 := b17.trans (f18.mono (by omega))
  have z18 := f18.size
  have cA018 := ck f18 cA017
  have cA118 := ck f18 cA117
  have cxA018 := ck f18 cxA017
  have cxA118 := ck f18 cxA117
  have tA18 := tA17.keep f18 (by omega)
  have tW18 := tW17.keep f18 (by omega)
  have txA18 := txA17.keep f18 (by omega)
  have tG18 := tG17.keep f18 (by omega)
  clear cA017 cA117 cxA017 cxA117 tA17 tW17 txA17 tG17
  clear txA18
  clear cxA018
  clear cxA118
  have lcA018 : w.heap.size < w18.heap.size := blt cA018
  go_wp2_with fail
  refine name_call fun w19 hw19 => ?_
  have b19 : Below w.heap.size w w19 := by rw [hw19]; (repeat (with_reducible first | exact bR _ _ | assumption | refine bD ?_ | refine bN ?_ _ | refine bA ?_ _ | refine bS ?_ _))
  have z19 : w18.heap.size + 0 ≤ w19.heap.size := by rw [hw19]; simp
  have e19 : Below w18.heap.size w18 w19 := by rw [hw19]; (repeat (with_reducible first | exact bR _ _ | assumption | refine bD ?_ | refine bN ?_ _ | refine bA ?_ _ | refine bS ?_ _))
  have cA019 := ck e19 cA018
  have cA119 := ck e19 cA118
  have tA19 := tA18.keep e19 (by omega)
  have tW19 := tW18.keep e19 (by omega)
  have tG19 := tG18.keep e19 (by omega)
  clear hw19 lcA018 cA018 cA118 tA18 tW18 tG18
  refine (markNums_any _ _ _ _ 1 _ tG19 (by omega) (by omega) (by omega)).mono ?_; rintro e w20 ⟨rfl, f20, q20⟩
  have d20 : Below w.heap.size w19 w20 := f20.below (by omega) (by omega)
  have b20 := b19.trans d20
  have z20 := f20.size
  have cA020 := (f20.cell (b := w.heap.size) (by omega) (by omega) 0).trans cA019
  have cA120 := (f20.cell (b := w.heap.size) (by omega) (by omega) 1).trans cA119
  have tA20 := tA19.keep d20 (Nat.le_refl _)
  have tW20 := tW19.only f20 (by omega) (by omega)
  clear cA019 cA119 tA19 tW19 tG19
  have lcA020 : w.heap.size < w20.heap.size := blt cA020
  go_wp2_with fail
  refine name_call fun w21 hw21 => ?_
  have b21 : Below w.heap.size w w21 := by rw [hw21]; (repeat (with_reducible first | exact bR _ _ | assumption | refine bD ?_ | refine bN ?_ _ | refine bA ?_ _ | refine bS ?_ _))
  have z21 : w20.heap.size + 0 ≤ w21.heap.size := by rw [hw21]; simp
  have e21 : Below w20.heap.size w20 w21 := by rw [hw21]; (repeat (with_reducible first | exact bR _ _ | assumption | refine bD ?_ | refine bN ?_ _ | refine bA ?_ _ | refine bS ?_ _))
  have cA021 := ck e21 cA020
  have cA121 := ck e21 cA120
  have tA21 := tA20.keep e21 (by omega)
  have tW21 := tW20.keep e21 (by omega)
  have tG21 := q20.keep e21 (by omega)
  clear hw21 lcA020 cA020 cA120 tA20 tW20
  refine (heldNums_any _ _ _ _ _ 1 _ tG21 (by omega) (by omega) (by omega)).mono ?_; rintro e w22 ⟨rfl, f22⟩
  have b22 := b21.trans (f22.mono (by omega))
  have z22 := f22.size
  have cA022 := ck f22 cA021
  have cA122 := ck f22 cA121
  have tA22 := tA21.keep f22 (by omega)
  have tW22 := tW21.keep f22 (by omega)
  have tG22 := tG21.keep f22 (by omega)
  clear cA021 cA121 tA21 tW21 tG21
  have lcA022 : w.heap.size < w22.heap.size := blt cA022
  go_wp2_with fail
  refine name_call fun w23 hw23 => ?_
  have b23 : Below w.heap.size w w23 := by rw [hw23]; (repeat (with_reducible first | exact bR _ _ | assumption | refine bD ?_ | refine bN ?_ _ | refine bA ?_ _ | refine bS ?_ _))
  have z23 : w22.heap.size + 0 ≤ w23.heap.size := by rw [hw23]; simp
  have e23 : Below w22.heap.size w22 w23 := by rw [hw23]; (repeat (with_reducible first | exact bR _ _ | assumption | refine bD ?_ | refine bN ?_ _ | refine bA ?_ _ | refine bS ?_ _))
  have cA023 := ck e23 cA022
  have cA123 := ck e23 cA122
  have tA23 := tA22.keep e23 (by omega)
  have tW23 := tW22.keep e23 (by omega)
  have tG23 := tG22.keep e23 (by omega)
  clear hw23 lcA022 cA022 cA122 tA22 tW22 tG22
  refine (toDfa_any false 0 w.heap.size _ _ dA _ tA23 (by omega) hlA).mono ?_; rintro e w24 ⟨unnA, uanA, rfl, f24, q24⟩
  have b24 := b23.trans (f24.mono (by omega))
  have z24 := f24.size
  have cA024 := ck f24 cA023
  have cA124 := ck f24 cA123
  have tA24 := tA23.keep f24 (by omega)
  have tW24 := tW23.keep f24 (by omega)
  have tG24 := tG23.keep f24 (by omega)
  clear cA023 cA123 tA23 tW23 tG23
  obtain ⟨annA, knnA, aanA, kanA, rfl, rfl, lnnA, bnnA, lanA, banA⟩ := q24.shape
  have lcA024 : w.heap.size < w24.heap.size := blt cA024
  go_wp2_with fail
  refine name_call fun w25 hw25 => ?_
  have b25 : Below w.heap.size w w25 := by rw [hw25]; (repeat (with_reducible first | exact bR _ _ | assumption | refine bD ?_ | refine bN ?_ _ | refine bA ?_ _ | refine bS ?_ _))
  have z25 : w24.heap.size + 0 ≤ w25.heap.size := by rw [hw25]; simp
  have e25 : Below w24.heap.size w24 w25 := by rw [hw25]; (repeat (with_reducible first | exact bR _ _ | assumption | refine bD ?_ | refine bN ?_ _ | refine bA ?_ _ | refine bS ?_ _))
  have cA025 := ck e25 cA024
  have cA125 := ck e25 cA124
  have tA25 := tA24.keep e25 (by omega)
  have tW25 := tW24.keep e25 (by omega)
  have tG25 := tG24.keep e25 (by omega)
  have tnA25 := q24.keep e25 (by omega)
  clear hw25 lcA024 cA024 cA124 tA24 tW24 tG24
  refine (accepting_impl _ _ _ _ _ dA _ tnA25 (by omega)).mono ?_; rintro e w26 ⟨uH, rfl, f26, q26⟩
  have b26 := b25.trans (f26.mono (by omega))
  have z26 := f26.size
  have cA026 := ck f26 cA025
  have cA126 := ck f26 cA125
  have tA26 := tA25.keep f26 (by omega)
  have tW26 := tW25.keep f26 (by omega)
  have tG26 := tG25.keep f26 (by omega)
  have tnA26 := tnA25.keep f26 (by omega)
  clear cA025 cA125 tA25 tW25 tG25 tnA25
  obtain ⟨aH, kH, rfl, laH, baH⟩ := q26.shape
  clear tnA26
  have lcA026 : w.heap.size < w26.heap.size := blt cA026
  go_wp2_with fail
  refine name_call fun w27 hw27 => ?_
  have b27 : Below w.heap.size w w27 := by rw [hw27]; (repeat (with_reducible first | exact bR _ _ | assumption | refine bD ?_ | refine bN ?_ _ | refine bA ?_ _ | refine bS ?_ _))
  have z27 : w26.heap.size + 0 ≤ w27.heap.size := by rw [hw27]; simp
  have e27 : Below w26.heap.size w26 w27 := by rw [hw27]; (repeat (with_reducible first | exact bR _ _ | assumption | refine bD ?_ | refine bN ?_ _ | refine bA ?_ _ | refine bS ?_ _))
  have cA027 := ck e27 cA026
  have cA127 := ck e27 cA126
  have tA27 := tA26.keep e27 (by omega)
  have tW27 := tW26.keep e27 (by omega)
  have tG27 := tG26.keep e27 (by omega)
  have tH27 := q26.keep e27 (by omega)
  clear hw27 lcA026 cA026 cA126 tA26 tW26 tG26
  refine (eqNums_any _ _ _ _ _ _ _ _ _ _ _ tH27 tW27 (by omega) (by omega)).mono ?_; rw [dec_self]; rintro e w28 ⟨rfl, f28⟩
  have b28 := b27.trans (f28.mono (by omega))
  have z28 := f28.size
  have cA028 := ck f28 cA027
  have cA128 := ck f28 cA127
  have tA28 := tA27.keep f28 (by omega)
  have tW28 := tW27.keep f28 (by omega)
  have tG28 := tG27.keep f28 (by omega)
  have tH28 := tH27.keep f28 (by omega)
  clear cA027 cA127 tA27 tW27 tG27 tH27
  have lcA028 : w.heap.size < w28.heap.size := blt cA028
  go_wp2_with fail
  refine name_call fun w29 hw29 => ?_
  have b29 : Below w.heap.size w w29 := by rw [hw29]; (repeat (with_reducible first | exact bR _ _ | assumption | refine bD ?_ | refine bN ?_ _ | refine bA ?_ _ | refine bS ?_ _))
  have z29 : w28.heap.size + 0 ≤ w29.heap.size := by rw [hw29]; simp
  have e29 : Below w28.heap.size w28 w29 := by rw [hw29]; (repeat (with_reducible first | exact bR _ _ | assumption | refine bD ?_ | refine bN ?_ _ | refine bA ?_ _ | refine bS ?_ _))
  have cA029 := ck e29 cA028
  have cA129 := ck e29 cA128
  have tA29 := tA28.keep e29 (by omega)
  have tW29 := tW28.keep e29 (by omega)
  have tG29 := tG28.keep e29 (by omega)
  have tH29 := tH28.keep e29 (by omega)
  clear hw29 lcA028 cA028 cA128 tA28 tW28 tG28 tH28
  refine (heldNums_any _ _ _ _ _ 1 _ tG29 (by omega) (by omega) (by omega)).mono ?_; rintro e w30 ⟨rfl, f30⟩
  have b30 := b29.trans (f30.mono (by omega))
  have z30 := f30.size
  have cA030 := ck f30 cA029
  have cA130 := ck f30 cA129
  have tA30 := tA29.keep f30 (by omega)
  have tW30 := tW29.keep f30 (by omega)
  have tG30 := tG29.keep f30 (by omega)
  have tH30 := tH29.keep f30 (by omega)
  clear cA029 cA129 tA29 tW29 tG29 tH29
  go_wp2_with fail
  go_ret
  exact ⟨rfl, b30⟩
end Go.Proofs.Ytcinpoeapbgnhaa.L
