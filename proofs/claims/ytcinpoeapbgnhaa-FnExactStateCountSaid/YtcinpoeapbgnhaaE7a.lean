/- Exact laws of layer 6 (written by tools/lawdfa.py): the program's function and its model return the same, write into no argument, and own what they return. -/
import Derived.Test.YtcinpoeapbgnhaaDfaN
namespace Go.Proofs.Ytcinpoeapbgnhaa.L
open Go.RowKit Go.Proofs.Ytcinpoeapbgnhaa.S
set_option linter.unusedVariables false
set_option linter.unusedSimpArgs false

set_option maxRecDepth 100000 in
set_option maxHeartbeats 6400000 in
theorem law_FnExactDfaOk (vnA vaA : Value) (dA : DfaC) (w : World) (hA : DfaR false 0 w.heap.size w vnA vaA dA)  :
    Calls Try.prog 4 #[.agg #[vnA, vaA]] w fun e w' => e = .returned (.bool true) ∧ Below w.heap.size w w' := by
  obtain ⟨anA, knA, aaA, kaA, rfl, rfl, lnA, bnA, laA, baA⟩ := hA.shape
  by_cases hlA : szD dA ≤ 1048576
  case' neg =>
    go_enter Try.func4, Try.ntmps4
    go_wp2_with fail
    refine name_call fun w1 hw1 => ?_
    have b1 : Below w.heap.size w w1 := by rw [hw1]; (repeat (with_reducible first | exact bR _ _ | assumption | refine bD ?_ | refine bN ?_ _ | refine bA ?_ _ | refine bS ?_ _))
    have z1 : w.heap.size + 1 ≤ w1.heap.size := by rw [hw1]; simp
    have e1 : Below w.heap.size w w1 := by rw [hw1]; (repeat (with_reducible first | exact bR _ _ | assumption | refine bD ?_ | refine bN ?_ _ | refine bA ?_ _ | refine bS ?_ _))
    have cA01 : w1.cell? ⟨w.heap.size, 0, none⟩ = some (.slice anA dA.next.length knA) := by rw [hw1]; first | (simp; done) | go_simp
    have cA11 : w1.cell? ⟨w.heap.size, 1, none⟩ = some (.slice aaA dA.acc.length kaA) := by rw [hw1]; first | (simp; done) | go_simp
    have tA1 := hA.keep e1 (by omega)
    clear hw1
    refine (szDfa_no false 0 w.heap.size _ _ dA 1048576 _ tA1 (by omega) (by omega) (by omega) (by omega)).mono ?_; rintro e w2 ⟨rfl, f2⟩
    have b2 := b1.trans (f2.mono (by omega))
    have z2 := f2.size
    have cA02 := ck f2 cA01
    have cA12 := ck f2 cA11
    have tA2 := tA1.keep f2 (by omega)
    clear cA01 cA11 tA1
    go_wp2_with fail
    go_ret
    exact ⟨rfl, b2⟩
  have q0 : 0 ≤ (1048576 : Int) - (szD dA : Nat) := by omega
  have hTA : totD dA ≤ 1048576 := by have : tot fI dA.next = tot List.length dA.next := rfl; unfold totD; unfold szD szIs at hlA; omega
  go_enter Try.func4, Try.ntmps4
  go_wp2_with fail
  refine name_call fun w1 hw1 => ?_
  have b1 : Below w.heap.size w w1 := by rw [hw1]; (repeat (with_reducible first | exact bR _ _ | assumption | refine bD ?_ | refine bN ?_ _ | refine bA ?_ _ | refine bS ?_ _))
  have z1 : w.heap.size + 1 ≤ w1.heap.size := by rw [hw1]; simp
  have e1 : Below w.heap.size w w1 := by rw [hw1]; (repeat (with_reducible first | exact bR _ _ | assumption | refine bD ?_ | refine bN ?_ _ | refine bA ?_ _ | refine bS ?_ _))
  have cA01 : w1.cell? ⟨w.heap.size, 0, none⟩ = some (.slice anA dA.next.length knA) := by rw [hw1]; first | (simp; done) | go_simp
  have cA11 : w1.cell? ⟨w.heap.size, 1, none⟩ = some (.slice aaA dA.acc.length kaA) := by rw [hw1]; first | (simp; done) | go_simp
  have tA1 := hA.keep e1 (by omega)
  clear hw1
  refine (szDfa_ok false 0 w.heap.size _ _ dA 1048576 _ tA1 (by omega) (by omega) (by omega) (by omega)).mono ?_; rintro e w2 ⟨rfl, f2⟩
  have b2 := b1.trans (f2.mono (by omega))
  have z2 := f2.size
  have cA02 := ck f2 cA01
  have cA12 := ck f2 cA11
  have tA2 := tA1.keep f2 (by omega)
  clear cA01 cA11 tA1
  have lcA02 : w.heap.size < w2.heap.size := blt cA02
  go_wp2_with fail
  refine name_call fun w3 hw3 => ?_
  have b3 : Below w.heap.size w w3 := by rw [hw3]; (repeat (with_reducible first | exact bR _ _ | assumption | refine bD ?_ | refine bN ?_ _ | refine bA ?_ _ | refine bS ?_ _))
  have z3 : w2.heap.size + 0 ≤ w3.heap.size := by rw [hw3]; simp
  have e3 : Below w2.heap.size w2 w3 := by rw [hw3]; (repeat (with_reducible first | exact bR _ _ | assumption | refine bD ?_ | refine bN ?_ _ | refine bA ?_ _ | refine bS ?_ _))
  have cA03 := ck e3 cA02
  have cA13 := ck e3 cA12
  have tA3 := tA2.keep e3 (by omega)
  clear hw3 lcA02 cA02 cA12 tA2
  refine (toDfa_any false 0 w.heap.size _ _ dA _ tA3 (by omega) hlA).mono ?_; rintro e w4 ⟨unmA, uamA, rfl, f4, q4⟩
  have b4 := b3.trans (f4.mono (by omega))
  have z4 := f4.size
  have cA04 := ck f4 cA03
  have cA14 := ck f4 cA13
  have tA4 := tA3.keep f4 (by omega)
  clear cA03 cA13 tA3
  obtain ⟨anmA, knmA, aamA, kamA, rfl, rfl, lnmA, bnmA, lamA, bamA⟩ := q4.shape
  have lcA04 : w.heap.size < w4.heap.size := blt cA04
  go_wp2_with fail
  refine name_call fun w5 hw5 => ?_
  have b5 : Below w.heap.size w w5 := by rw [hw5]; (repeat (with_reducible first | exact bR _ _ | assumption | refine bD ?_ | refine bN ?_ _ | refine bA ?_ _ | refine bS ?_ _))
  have z5 : w4.heap.size + 0 ≤ w5.heap.size := by rw [hw5]; simp
  have e5 : Below w4.heap.size w4 w5 := by rw [hw5]; (repeat (with_reducible first | exact bR _ _ | assumption | refine bD ?_ | refine bN ?_ _ | refine bA ?_ _ | refine bS ?_ _))
  have cA05 := ck e5 cA04
  have cA15 := ck e5 cA14
  have tA5 := tA4.keep e5 (by omega)
  have tmA5 := q4.keep e5 (by omega)
  clear hw5 lcA04 cA04 cA14 tA4
  refine (dfaOk_spec _ _ _ _ _ dA _ tmA5 (by omega)).mono ?_; rintro e w6 ⟨rfl, f6⟩
  have b6 := b5.trans (f6.mono (by omega))
  have z6 := f6.size
  have cA06 := ck f6 cA05
  have cA16 := ck f6 cA15
  have tA6 := tA5.keep f6 (by omega)
  have tmA6 := tmA5.keep f6 (by omega)
  clear cA05 cA15 tA5 tmA5
  clear tmA6
  have lcA06 : w.heap.size < w6.heap.size := blt cA06
  go_wp2_with fail
  refine name_call fun w7 hw7 => ?_
  have b7 : Below w.heap.size w w7 := by rw [hw7]; (repeat (with_reducible first | exact bR _ _ | assumption | refine bD ?_ | refine bN ?_ _ | refine bA ?_ _ | refine bS ?_ _))
  have z7 : w6.heap.size + 0 ≤ w7.heap.size := by rw [hw7]; simp
  have e7 : Below w6.heap.size w6 w7 := by rw [hw7]; (repeat (with_reducible first | exact bR _ _ | assumption | refine bD ?_ | refine bN ?_ _ | refine bA ?_ _ | refine bS ?_ _))
  have cA07 := ck e7 cA06
  have cA17 := ck e7 cA16
  have tA7 := tA6.keep e7 (by omega)
  clear hw7 lcA06 cA06 cA16 tA6
  refine (toDfa_any false 0 w.heap.size _ _ dA _ tA7 (by omega) hlA).mono ?_; rintro e w8 ⟨unxA, uaxA, rfl, f8, q8⟩
  have b8 := b7.trans (f8.mono (by omega))
  have z8 := f8.size
  have cA08 := ck f8 cA07
  have cA18 := ck f8 cA17
  have tA8 := tA7.keep f8 (by omega)
  clear cA07 cA17 tA7
  obtain ⟨anxA, knxA, aaxA, kaxA, rfl, rfl, lnxA, bnxA, laxA, baxA⟩ := q8.shape
  have lcA08 : w.heap.size < w8.heap.size := blt cA08
  go_wp2_with fail
  refine name_call fun w9 hw9 => ?_
  have b9 : Below w.heap.size w w9 := by rw [hw9]; (repeat (with_reducible first | exact bR _ _ | assumption | refine bD ?_ | refine bN ?_ _ | refine bA ?_ _ | refine bS ?_ _))
  have z9 : w8.heap.size + 1 ≤ w9.heap.size := by rw [hw9]; simp
  have e9 : Below w8.heap.size w8 w9 := by rw [hw9]; (repeat (with_reducible first | exact bR _ _ | assumption | refine bD ?_ | refine bN ?_ _ | refine bA ?_ _ | refine bS ?_ _))
  have cA09 := ck e9 cA08
  have cA19 := ck e9 cA18
  have cxA09 : w9.cell? ⟨w8.heap.size, 0, none⟩ = some (.slice anxA dA.next.length knxA) := by rw [hw9]; first | (simp; done) | go_simp
  have cxA19 : w9.cell? ⟨w8.heap.size, 1, none⟩ = some (.slice aaxA dA.acc.length kaxA) := by rw [hw9]; first | (simp; done) | go_simp
  have tA9 := tA8.keep e9 (by omega)
  have txA9 := q8.keep e9 (by omega)
  clear hw9 lcA08 cA08 cA18 tA8
  refine (dfaOk_impl _ _ _ _ _ dA _ txA9 (by omega)).mono ?_; rintro e w10 ⟨rfl, f10⟩
  have b10 := b9.trans (f10.mono (by omega))
  have z10 := f10.size
  have cA010 := ck f10 cA09
  have cA110 := ck f10 cA19
  have cxA010 := ck f10 cxA09
  have cxA110 := ck f10 cxA19
  have tA10 := tA9.keep f10 (by omega)
  have txA10 := txA9.keep f10 (by omega)
  clear cA09 cA19 cxA09 cxA19 tA9 txA9
  have lcA010 : w.heap.size < w10.heap.size := blt cA010
  have lcxA010 : w8.heap.size < w10.heap.size := blt cxA010
  go_wp2_with fail
  refine name_wp fun w11 hw11 => ?_
  have b11 : Below w.heap.size w w11 := by rw [hw11]; (repeat (with_reducible first | exact bR _ _ | assumption | refine bD ?_ | refine bN ?_ _ | refine bA ?_ _ | refine bS ?_ _))
  have z11 : w10.heap.size + 0 ≤ w11.heap.size := by rw [hw11]; simp
  have e11 : Below w10.heap.size w10 w11 := by rw [hw11]; (repeat (with_reducible first | exact bR _ _ | assumption | refine bD ?_ | refine bN ?_ _ | refine bA ?_ _ | refine bS ?_ _))
  have cA011 := ck e11 cA010
  have cA111 := ck e11 cA110
  have cxA011 := ck e11 cxA010
  have cxA111 := ck e11 cxA110
  have tA11 := tA10.keep e11 (by omega)
  have txA11 := txA10.keep e11 (by omega)
  clear hw11 lcA010 lcxA010 cA010 cA110 cxA010 cxA110 tA10 txA10
  have d11 : Below w11.heap.size w11 w11.drew := (Below.refl _ _).drew
  have zd11 : w11.heap.size ≤ w11.drew.heap.size := Nat.le_refl _
  have ze11 : w11.drew.heap.size ≤ w11.heap.size := Nat.le_refl _
  have GxA0 : w11.drew.cell? ⟨w8.heap.size, 0, none⟩ = some (.slice anxA dA.next.length knxA) := cell_keep d11 cxA011
  have GxA1 : w11.drew.cell? ⟨w8.heap.size, 1, none⟩ = some (.slice aaxA dA.acc.length kaxA) := cell_keep d11 cxA111
  have GA0 : w11.drew.cell? ⟨w.heap.size, 0, none⟩ = some (.slice anA dA.next.length knA) := cell_keep d11 cA011
  have GA1 : w11.drew.cell? ⟨w.heap.size, 1, none⟩ = some (.slice aaA dA.acc.length kaA) := cell_keep d11 cA111
  have UA := tA11.keep d11 (by omega)
  have UxA := txA11.keep d11 (by omega)
  go_region_held3 (fun w' => w'.cell? ⟨w8.heap.size, 0, none⟩ = some (.slice anxA dA.next.length knxA) ∧ w'.cell? ⟨w8.heap.size, 1, none⟩ = some (.slice aaxA dA.acc.length kaxA) ∧ w'.cell? ⟨w.heap.size, 0, none⟩ = some (.slice anA dA.next.length knA) ∧ w'.cell? ⟨w.heap.size, 1, none⟩ = some (.slice aaA dA.acc.length kaA)) (first | exact ⟨GxA0, GxA1, GA0, GA1⟩ | exact ⟨cell_keep j1 GxA0, cell_keep j1 GxA1, cell_keep j1 GA0, cell_keep j1 GA1⟩ | exact ⟨cell_keep j2 (cell_keep j1 GxA0), cell_keep j2 (cell_keep j1 GxA1), cell_keep j2 (cell_keep j1 GA0), cell_keep j2 (cell_keep j1 GA1)⟩)
    (first
      | (go_at_call 12; refine (toDfa_any false 0 w.heap.size _ _ dA w11.drew UA (by omega) hlA).mono ?_; rintro e v1 ⟨un1, ua1, rfl, j1, q1⟩; obtain ⟨an1, kn1, aa1, ka1, rfl, rfl, ln1, bn1, la1, ba1⟩ := q1.shape; have s1 := j1.size)
      | (go_at_call 14; refine (eqDfa_same _ _ _ _ _ _ _ _ _ _ dA v1 (UxA.keep j1 (by omega)) q1 (by omega) (Nat.le_refl _)).mono ?_; rintro e v2 ⟨rfl, j2⟩))
  have s2 := j2.size
  have f12 : Below w11.heap.size w11 v2 := (d11.trans (j1.mono (by omega))).trans (j2.mono (by omega))
  have b12 := b11.trans (f12.mono (by omega))
  have z12 := f12.size
  have cA012 := cell_keep f12 cA011
  have cA112 := cell_keep f12 cA111
  have cxA012 := cell_keep f12 cxA011
  have cxA112 := cell_keep f12 cxA111
  have tA12 := tA11.keep f12 (by omega)
  have txA12 := txA11.keep f12 (by omega)
  clear cA011 cA111 cxA011 cxA111 tA11 txA11 GxA0 GxA1 GA0 GA1 UA UxA
  go_wp2_with fail
  go_ret
  exact ⟨rfl, b12⟩

set_option maxRecDepth 100000 in
set_option maxHeartbeats 6400000 in
theorem law_FnExactStateCount (vnA vaA : Value) (dA : DfaC) (w : World) (hA : DfaR false 0 w.heap.size w vnA vaA dA)  :
    Calls Try.prog 3 #[.agg #[vnA, vaA]] w fun e w' => e = .returned (.bool true) ∧ Below w.heap.size w w' := by
  obtain ⟨anA, knA, aaA, kaA, rfl, rfl, lnA, bnA, laA, baA⟩ := hA.shape
  by_cases hlA : szD dA ≤ 1048576
  case' neg =>
    go_enter Try.func3, Try.ntmps3
    go_wp2_with fail
    refine name_call fun w1 hw1 => ?_
    have b1 : Below w.heap.size w w1 := by rw [hw1]; (repeat (with_reducible first | exact bR _ _ | assumption | refine bD ?_ | refine bN ?_ _ | refine bA ?_ _ | refine bS ?_ _))
    have z1 : w.heap.size + 1 ≤ w1.heap.size := by rw [hw1]; simp
    have e1 : Below w.heap.size w w1 := by rw [hw1]; (repeat (with_reducible first | exact bR _ _ | assumption | refine bD ?_ | refine bN ?_ _ | refine bA ?_ _ | refine bS ?_ _))
    have cA01 : w1.cell? ⟨w.heap.size, 0, none⟩ = some (.slice anA dA.next.length knA) := by rw [hw1]; first | (simp; done) | go_simp
    have cA11 : w1.cell? ⟨w.heap.size, 1, none⟩ = some (.slice aaA dA.acc.length kaA) := by rw [hw1]; first | (simp; done) | go_simp
    have tA1 := hA.keep e1 (by omega)
    clear hw1
    refine (szDfa_no false 0 w.heap.size _ _ dA 1048576 _ tA1 (by omega) (by omega) (by omega) (by omega)).mono ?_; rintro e w2 ⟨rfl, f2⟩
    have b2 := b1.trans (f2.mono (by omega))
    have z2 := f2.size
    have cA02 := ck f2 cA01
    have cA12 := ck f2 cA11
    have tA2 := tA1.keep f2 (by omega)
    clear cA01 cA11 tA1
    go_wp2_with fail
    go_ret
    exact ⟨rfl, b2⟩
  have q0 : 0 ≤ (1048576 : Int) - (szD dA : Nat) := by omega
  have hTA : totD dA ≤ 1048576 := by have : tot fI dA.next = tot List.length dA.next := rfl; unfold totD; unfold szD szIs at hlA; omega
  go_enter Try.func3, Try.ntmps3
  go_wp2_with fail
  refine name_call fun w1 hw1 => ?_
  have b1 : Below w.heap.size w w1 := by rw [hw1]; (repeat (with_reducible first | exact bR _ _ | assumption | refine bD ?_ | refine bN ?_ _ | refine bA ?_ _ | refine bS ?_ _))
  have z1 : w.heap.size + 1 ≤ w1.heap.size := by rw [hw1]; simp
  have e1 : Below w.heap.size w w1 := by rw [hw1]; (repeat (with_reducible first | exact bR _ _ | assumption | refine bD ?_ | refine bN ?_ _ | refine bA ?_ _ | refine bS ?_ _))
  have cA01 : w1.cell? ⟨w.heap.size, 0, none⟩ = some (.slice anA dA.next.length knA) := by rw [hw1]; first | (simp; done) | go_simp
  have cA11 : w1.cell? ⟨w.heap.size, 1, none⟩ = some (.slice aaA dA.acc.length kaA) := by rw [hw1]; first | (simp; done) | go_simp
  have tA1 := hA.keep e1 (by omega)
  clear hw1
  refine (szDfa_ok false 0 w.heap.size _ _ dA 1048576 _ tA1 (by omega) (by omega) (by omega) (by omega)).mono ?_; rintro e w2 ⟨rfl, f2⟩
  have b2 := b1.trans (f2.mono (by omega))
  have z2 := f2.size
  have cA02 := ck f2 cA01
  have cA12 := ck f2 cA11
  have tA2 := tA1.keep f2 (by omega)
  clear cA01 cA11 tA1
  have lcA02 : w.heap.size < w2.heap.size := blt cA02
  go_wp2_with fail
  refine name_call fun w3 hw3 => ?_
  have b3 : Below w.heap.size w w3 := by rw [hw3]; (repeat (with_reducible first | exact bR _ _ | assumption | refine bD ?_ | refine bN ?_ _ | refine bA ?_ _ | refine bS ?_ _))
  have z3 : w2.heap.size + 0 ≤ w3.heap.size := by rw [hw3]; simp
  have e3 : Below w2.heap.size w2 w3 := by rw [hw3]; (repeat (with_reducible first | exact bR _ _ | assumption | refine bD ?_ | refine bN ?_ _ | refine bA ?_ _ | refine bS ?_ _))
  have cA03 := ck e3 cA02
  have cA13 := ck e3 cA12
  have tA3 := tA2.keep e3 (by omega)
  clear hw3 lcA02 cA02 cA12 tA2
  refine (toDfa_any false 0 w.heap.size _ _ dA _ tA3 (by omega) hlA).mono ?_; rintro e w4 ⟨unmA, uamA, rfl, f4, q4⟩
  have b4 := b3.trans (f4.mono (by omega))
  have z4 := f4.size
  have cA04 := ck f4 cA03
  have cA14 := ck f4 cA13
  have tA4 := tA3.keep f4 (by omega)
  clear cA03 cA13 tA3
  obtain ⟨anmA, knmA, aamA, kamA, rfl, rfl, lnmA, bnmA, lamA, bamA⟩ := q4.shape
  have lcA04 : w.heap.size < w4.heap.size := blt cA04
  go_wp2_with fail
  refine name_call fun w5 hw5 => ?_
  have b5 : Below w.heap.size w w5 := by rw [hw5]; (repeat (with_reducible first | exact bR _ _ | assumption | refine bD ?_ | refine bN ?_ _ | refine bA ?_ _ | refine bS ?_ _))
  have z5 : w4.heap.size + 0 ≤ w5.heap.size := by rw [hw5]; simp
  have e5 : Below w4.heap.size w4 w5 := by rw [hw5]; (repeat (with_reducible first | exact bR _ _ | assumption | refine bD ?_ | refine bN ?_ _ | refine bA ?_ _ | refine bS ?_ _))
  have cA05 := ck e5 cA04
  have cA15 := ck e5 cA14
  have tA5 := tA4.keep e5 (by omega)
  have tmA5 := q4.keep e5 (by omega)
  clear hw5 lcA04 cA04 cA14 tA4
  refine (stateCount_spec _ _ _ _ _ dA _ tmA5 (by omega)).mono ?_; rintro e w6 ⟨rfl, f6⟩
  have b6 := b5.trans (f6.mono (by omega))
  have z6 := f6.size
  have cA06 := ck f6 cA05
  have cA16 := ck f6 cA15
  have tA6 := tA5.keep f6 (by omega)
  have tmA6 := tmA5.keep f6 (by omega)
  clear cA05 cA15 tA5 tmA5
  clear tmA6
  have lcA06 : w.heap.size < w6.heap.size := blt cA06
  go_wp2_with fail
  refine name_call fun w7 hw7 => ?_
  have b7 : Below w.heap.size w w7 := by rw [hw7]; (repeat (with_reducible first | exact bR _ _ | assumption | refine bD ?_ | refine bN ?_ _ | refine bA ?_ _ | refine bS ?_ _))
  have z7 : w6.heap.size + 0 ≤ w7.heap.size := by rw [hw7]; simp
  have e7 : Below w6.heap.size w6 w7 := by rw [hw7]; (repeat (with_reducible first | exact bR _ _ | assumption | refine bD ?_ | refine bN ?_ _ | refine bA ?_ _ | refine bS ?_ _))
  have cA07 := ck e7 cA06
  have cA17 := ck e7 cA16
  have tA7 := tA6.keep e7 (by omega)
  clear hw7 lcA06 cA06 cA16 tA6
  refine (toDfa_any false 0 w.heap.size _ _ dA _ tA7 (by omega) hlA).mono ?_; rintro e w8 ⟨unxA, uaxA, rfl, f8, q8⟩
  have b8 := b7.trans (f8.mono (by omega))
  have z8 := f8.size
  have cA08 := ck f8 cA07
  have cA18 := ck f8 cA17
  have tA8 := tA7.keep f8 (by omega)
  clear cA07 cA17 tA7
  obtain ⟨anxA, knxA, aaxA, kaxA, rfl, rfl, lnxA, bnxA, laxA, baxA⟩ := q8.shape
  have lcA08 : w.heap.size < w8.heap.size := blt cA08
  go_wp2_with fail
  refine name_call fun w9 hw9 => ?_
  have b9 : Below w.heap.size w w9 := by rw [hw9]; (repeat (with_reducible first | exact bR _ _ | assumption | refine bD ?_ | refine bN ?_ _ | refine bA ?_ _ | refine bS ?_ _))
  have z9 : w8.heap.size + 1 ≤ w9.heap.size := by rw [hw9]; simp
  have e9 : Below w8.heap.size w8 w9 := by rw [hw9]; (repeat (with_reducible first | exact bR _ _ | assumption | refine bD ?_ | refine bN ?_ _ | refine bA ?_ _ | refine bS ?_ _))
  have cA09 := ck e9 cA08
  have cA19 := ck e9 cA18
  have cxA09 : w9.cell? ⟨w8.heap.size, 0, none⟩ = some (.slice anxA dA.next.length knxA) := by rw [hw9]; first | (simp; done) | go_simp
  have cxA19 : w9.cell? ⟨w8.heap.size, 1, none⟩ = some (.slice aaxA dA.acc.length kaxA) := by rw [hw9]; first | (simp; done) | go_simp
  have tA9 := tA8.keep e9 (by omega)
  have txA9 := q8.keep e9 (by omega)
  clear hw9 lcA08 cA08 cA18 tA8
  refine (stateCount_impl _ _ _ _ _ dA _ txA9 (by omega)).mono ?_; rintro e w10 ⟨rfl, f10⟩
  have b10 := b9.trans (f10.mono (by omega))
  have z10 := f10.size
  have cA010 := ck f10 cA09
  have cA110 := ck f10 cA19
  have cxA010 := ck f10 cxA09
  have cxA110 := ck f10 cxA19
  have tA10 := tA9.keep f10 (by omega)
  have txA10 := txA9.keep f10 (by omega)
  clear cA09 cA19 cxA09 cxA19 tA9 txA9
  have lcA010 : w.heap.size < w10.heap.size := blt cA010
  have lcxA010 : w8.heap.size < w10.heap.size := blt cxA010
  go_wp2_with fail
  refine name_wp fun w11 hw11 => ?_
  have b11 : Below w.heap.size w w11 := by rw [hw11]; (repeat (with_reducible first | exact bR _ _ | assumption | refine bD ?_ | refine bN ?_ _ | refine bA ?_ _ | refine bS ?_ _))
  have z11 : w10.heap.size + 0 ≤ w11.heap.size := by rw [hw11]; simp
  have e11 : Below w10.heap.size w10 w11 := by rw [hw11]; (repeat (with_reducible first | exact bR _ _ | assumption | refine bD ?_ | refine bN ?_ _ | refine bA ?_ _ | refine bS ?_ _))
  have cA011 := ck e11 cA010
  have cA111 := ck e11 cA110
  have cxA011 := ck e11 cxA010
  have cxA111 := ck e11 cxA110
  have tA11 := tA10.keep e11 (by omega)
  have txA11 := txA10.keep e11 (by omega)
  clear hw11 lcA010 lcxA010 cA010 cA110 cxA010 cxA110 tA10 txA10
  have d11 : Below w11.heap.size w11 w11.drew := (Below.refl _ _).drew
  have zd11 : w11.heap.size ≤ w11.drew.heap.size := Nat.le_refl _
  have ze11 : w11.drew.heap.size ≤ w11.heap.size := Nat.le_refl _
  have GxA0 : w11.drew.cell? ⟨w8.heap.size, 0, none⟩ = some (.slice anxA dA.next.length knxA) := cell_keep d11 cxA011
  have GxA1 : w11.drew.cell? ⟨w8.heap.size, 1, none⟩ = some (.slice aaxA dA.acc.length kaxA) := cell_keep d11 cxA111
  have GA0 : w11.drew.cell? ⟨w.heap.size, 0, none⟩ = some (.slice anA dA.next.length knA) := cell_keep d11 cA011
  have GA1 : w11.drew.cell? ⟨w.heap.size, 1, none⟩ = some (.slice aaA dA.acc.length kaA) := cell_keep d11 cA111
  have UA := tA11.keep d11 (by omega)
  have UxA := txA11.keep d11 (by omega)
  go_region_held3 (fun w' => w'.cell? ⟨w8.heap.size, 0, none⟩ = some (.slice anxA dA.next.length knxA) ∧ w'.cell? ⟨w8.heap.size, 1, none⟩ = some (.slice aaxA dA.acc.length kaxA) ∧ w'.cell? ⟨w.heap.size, 0, none⟩ = some (.slice anA dA.next.length knA) ∧ w'.cell? ⟨w.heap.size, 1, none⟩ = some (.slice aaA dA.acc.length kaA)) (first | exact ⟨GxA0, GxA1, GA0, GA1⟩ | exact ⟨cell_keep j1 GxA0, cell_keep j1 GxA1, cell_keep j1 GA0, cell_keep j1 GA1⟩ | exact ⟨cell_keep j2 (cell_keep j1 GxA0), cell_keep j2 (cell_keep j1 GxA1), cell_keep j2 (cell_keep j1 GA0), cell_keep j2 (cell_keep j1 GA1)⟩)
    (first
      | (go_at_call 12; refine (toDfa_any false 0 w.heap.size _ _ dA w11.drew UA (by omega) hlA).mono ?_; rintro e v1 ⟨un1, ua1, rfl, j1, q1⟩; obtain ⟨an1, kn1, aa1, ka1, rfl, rfl, ln1, bn1, la1, ba1⟩ := q1.shape; have s1 := j1.size)
      | (go_at_call 14; refine (eqDfa_same _ _ _ _ _ _ _ _ _ _ dA v1 (UxA.keep j1 (by omega)) q1 (by omega) (Nat.le_refl _)).mono ?_; rintro e v2 ⟨rfl, j2⟩))
  have s2 := j2.size
  have f12 : Below w11.heap.size w11 v2 := (d11.trans (j1.mono (by omega))).trans (j2.mono (by omega))
  have b12 := b11.trans (f12.mono (by omega))
  have z12 := f12.size
  have cA012 := cell_keep f12 cA011
  have cA112 := cell_keep f12 cA111
  have cxA012 := cell_keep f12 cxA011
  have cxA112 := cell_keep f12 cxA111
  have tA12 := tA11.keep f12 (by omega)
  have txA12 := txA11.keep f12 (by omega)
  clear cA011 cA111 cxA011 cxA111 tA11 txA11 GxA0 GxA1 GA0 GA1 UA UxA
  go_wp2_with fail
  go_ret
  exact ⟨rfl, b12⟩
end Go.Proofs.Ytcinpoeapbgnhaa.L
