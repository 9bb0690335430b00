/- Exact laws of layer 3 (written by tools/lawsys.py): the program's function and its model return the same, write into no argument, and own what they return. -/
import Derived.Test.YtldeckiflghpcaaRoot2
import Derived.Test.YtldeckiflghpcaaToInts2
namespace Go.Proofs.Ytldeckiflghpcaa.L
open Go.RowKit Go.Proofs.Ytldeckiflghpcaa.S
set_option linter.unusedVariables false
set_option linter.unusedSimpArgs false
theorem szIs_el {xs : List (List Int)} {t : List Int} (h : t ∈ xs) : t.length ≤ szIs xs := by
  unfold szIs
  have : t.length ≤ tot List.length xs := by
    unfold tot
    induction xs with
    | nil => cases h
    | cons y r ih =>
      rcases List.mem_cons.1 h with rfl | h
      · simp
      · have := ih h; simp at this ⊢; omega
  omega
theorem rootL_len (leaf : List Int) (path : List (List Int)) (bits : List Int) : (rootL leaf path bits).length ≤ 4 := by
  cases h : pathB leaf path bits with
  | false => rw [rootL_no h]; simp
  | true =>
    rw [rootL_yes h]
    unfold pathB headB at h
    simp only [Bool.and_eq_true] at h
    rw [four_len (rootAt_four (fourB_elim h.1.1.1) h.2)]; omega

set_option maxRecDepth 100000 in
set_option maxHeartbeats 6400000 in
theorem law_FnExactRoot (vA : Value) (tsA : List Int) (vP : Value) (tsP : List (List Int)) (vB : Value) (tsB : List Int) (w : World) (hA : Ints w.heap.size w vA tsA) (hP : IntSS false 0 w.heap.size w vP tsP) (hB : Ints w.heap.size w vB tsB) :
    Calls Try.prog 6 #[vA, vP, vB] w fun e w' => e = .returned (.bool true) ∧ Below w.heap.size w w' := by
  obtain ⟨aA, kA, rfl, laA, baA⟩ := hA.shape
  obtain ⟨aP, kP, rfl, laP, baP⟩ := hP.shape
  obtain ⟨aB, kB, rfl, laB, baB⟩ := hB.shape
  by_cases hlA : tsA.length ≤ 1048576
  case' neg =>
    go_enter Try.func6, Try.ntmps6
    go_wp2_with fail
    go_ret
    exact ⟨rfl, by (repeat (with_reducible first | exact bR _ _ | assumption | refine bD ?_ | refine bN ?_ _ | refine bA ?_ _ | refine bS ?_ _))⟩
  by_cases hlB : tsB.length ≤ 1048576
  case' neg =>
    go_enter Try.func6, Try.ntmps6
    go_wp2_with fail
    go_ret
    exact ⟨rfl, by (repeat (with_reducible first | exact bR _ _ | assumption | refine bD ?_ | refine bN ?_ _ | refine bA ?_ _ | refine bS ?_ _))⟩
  by_cases hlP : szIs tsP ≤ 1048576
  case' neg =>
    go_enter Try.func6, Try.ntmps6
    go_wp2_with fail
    refine (szIntSS_no false 0 w.heap.size _ tsP 1048576 w hP (by omega) (by omega) (by omega) (by omega)).mono ?_; rintro e w1 ⟨rfl, f1⟩
    go_wp2_with fail
    go_ret
    exact ⟨rfl, f1⟩
  have hnP : tsP.length ≤ 1048576 := by unfold szIs at hlP; omega
  have heP : ∀ t ∈ tsP, t.length ≤ 1048576 := fun t ht => by have := szIs_el ht; omega
  have htP : tot fI tsP ≤ 1048576 := by have : tot fI tsP = tot List.length tsP := rfl; unfold szIs at hlP; omega
  have HEP := Lib.hid heP; clear heP
  have hF : (rootL tsA tsP tsB).length ≤ 1048576 := Nat.le_trans (rootL_len tsA tsP tsB) (by omega)
  go_enter Try.func6, Try.ntmps6
  have q0P : (szIs tsP : Int) ≤ 1048576 := by omega
  have q1P : 0 ≤ (1048576 : Int) - (szIs tsP : Nat) := by omega
  go_wp2_with fail
  refine name_call fun w1 hw1 => ?_
  have b1 : Below w.heap.size w w1 := by rw [hw1]; (repeat (with_reducible first | exact bR _ _ | assumption | refine bD ?_ | refine bN ?_ _ | refine bA ?_ _ | refine bS ?_ _))
  have z1 : w.heap.size + 0 ≤ w1.heap.size := by rw [hw1]; simp
  have e1 : Below w.heap.size w w1 := by rw [hw1]; (repeat (with_reducible first | exact bR _ _ | assumption | refine bD ?_ | refine bN ?_ _ | refine bA ?_ _ | refine bS ?_ _))
  have tA1 := hA.keep e1 (by omega)
  have tP1 := hP.keep e1 (by omega)
  have tB1 := hB.keep e1 (by omega)
  clear hw1
  refine (szIntSS_ok false 0 w.heap.size _ tsP 1048576 _ tP1 (by omega) (by omega) (by omega)).mono ?_; rintro e w2 ⟨rfl, f2⟩
  have b2 := b1.trans (f2.mono (by omega))
  have z2 := f2.size
  have tA2 := tA1.keep f2 (by omega)
  have tP2 := tP1.keep f2 (by omega)
  have tB2 := tB1.keep f2 (by omega)
  clear tA1 tP1 tB1
  go_wp2_with fail
  refine name_call fun w3 hw3 => ?_
  have b3 : Below w.heap.size w w3 := by rw [hw3]; (repeat (with_reducible first | exact bR _ _ | assumption | refine bD ?_ | refine bN ?_ _ | refine bA ?_ _ | refine bS ?_ _))
  have z3 : w2.heap.size + 0 ≤ w3.heap.size := by rw [hw3]; simp
  have e3 : Below w2.heap.size w2 w3 := by rw [hw3]; (repeat (with_reducible first | exact bR _ _ | assumption | refine bD ?_ | refine bN ?_ _ | refine bA ?_ _ | refine bS ?_ _))
  have tA3 := tA2.keep e3 (by omega)
  have tP3 := tP2.keep e3 (by omega)
  have tB3 := tB2.keep e3 (by omega)
  clear hw3 tA2 tP2 tB2
  refine (toIntS_own _ _ _ _ tA3 (by omega) (by omega)).mono ?_; rintro e w4 ⟨umA, rfl, f4, q4⟩
  have b4 := b3.trans (f4.mono (by omega))
  have z4 := f4.size
  have tA4 := tA3.keep f4 (by omega)
  have tP4 := tP3.keep f4 (by omega)
  have tB4 := tB3.keep f4 (by omega)
  clear tA3 tP3 tB3
  obtain ⟨amA, kmA, rfl, lamA, bamA⟩ := q4.shape
  go_wp2_with fail
  refine name_call fun w5 hw5 => ?_
  have b5 : Below w.heap.size w w5 := by rw [hw5]; (repeat (with_reducible first | exact bR _ _ | assumption | refine bD ?_ | refine bN ?_ _ | refine bA ?_ _ | refine bS ?_ _))
  have z5 : w4.heap.size + 0 ≤ w5.heap.size := by rw [hw5]; simp
  have e5 : Below w4.heap.size w4 w5 := by rw [hw5]; (repeat (with_reducible first | exact bR _ _ | assumption | refine bD ?_ | refine bN ?_ _ | refine bA ?_ _ | refine bS ?_ _))
  have tA5 := tA4.keep e5 (by omega)
  have tP5 := tP4.keep e5 (by omega)
  have tB5 := tB4.keep e5 (by omega)
  have tmA5 := q4.keep e5 (by omega)
  clear hw5 tA4 tP4 tB4
  refine (toIntSS_any false 0 w.heap.size _ tsP _ tP5 (by omega) hnP HEP.out).mono ?_; rintro e w6 ⟨umP, rfl, f6, q6⟩
  have b6 := b5.trans (f6.mono (by omega))
  have z6 := f6.size
  have tA6 := tA5.keep f6 (by omega)
  have tP6 := tP5.keep f6 (by omega)
  have tB6 := tB5.keep f6 (by omega)
  have tmA6 := tmA5.keep f6 (by omega)
  clear tA5 tP5 tB5 tmA5
  obtain ⟨amP, kmP, rfl, lamP, bamP⟩ := q6.shape
  go_wp2_with fail
  refine name_call fun w7 hw7 => ?_
  have b7 : Below w.heap.size w w7 := by rw [hw7]; (repeat (with_reducible first | exact bR _ _ | assumption | refine bD ?_ | refine bN ?_ _ | refine bA ?_ _ | refine bS ?_ _))
  have z7 : w6.heap.size + 0 ≤ w7.heap.size := by rw [hw7]; simp
  have e7 : Below w6.heap.size w6 w7 := by rw [hw7]; (repeat (with_reducible first | exact bR _ _ | assumption | refine bD ?_ | refine bN ?_ _ | refine bA ?_ _ | refine bS ?_ _))
  have tA7 := tA6.keep e7 (by omega)
  have tP7 := tP6.keep e7 (by omega)
  have tB7 := tB6.keep e7 (by omega)
  have tmA7 := tmA6.keep e7 (by omega)
  have tmP7 := q6.keep e7 (by omega)
  clear hw7 tA6 tP6 tB6 tmA6
  refine (toIntS_own _ _ _ _ tB7 (by omega) (by omega)).mono ?_; rintro e w8 ⟨umB, rfl, f8, q8⟩
  have b8 := b7.trans (f8.mono (by omega))
  have z8 := f8.size
  have tA8 := tA7.keep f8 (by omega)
  have tP8 := tP7.keep f8 (by omega)
  have tB8 := tB7.keep f8 (by omega)
  have tmA8 := tmA7.keep f8 (by omega)
  have tmP8 := tmP7.keep f8 (by omega)
  clear tA7 tP7 tB7 tmA7 tmP7
  obtain ⟨amB, kmB, rfl, lamB, bamB⟩ := q8.shape
  go_wp2_with fail
  refine name_call fun w9 hw9 => ?_
  have b9 : Below w.heap.size w w9 := by rw [hw9]; (repeat (with_reducible first | exact bR _ _ | assumption | refine bD ?_ | refine bN ?_ _ | refine bA ?_ _ | refine bS ?_ _))
  have z9 : w8.heap.size + 0 ≤ w9.heap.size := by rw [hw9]; simp
  have e9 : Below w8.heap.size w8 w9 := by rw [hw9]; (repeat (with_reducible first | exact bR _ _ | assumption | refine bD ?_ | refine bN ?_ _ | refine bA ?_ _ | refine bS ?_ _))
  have tA9 := tA8.keep e9 (by omega)
  have tP9 := tP8.keep e9 (by omega)
  have tB9 := tB8.keep e9 (by omega)
  have tmA9 := tmA8.keep e9 (by omega)
  have tmP9 := tmP8.keep e9 (by omega)
  have tmB9 := q8.keep e9 (by omega)
  clear hw9 tA8 tP8 tB8 tmA8 tmP8
  refine (root_spec _ _ _ _ _ _ _ _ tsA tsP tsB _ tmA9.ints tmP9 tmB9.ints (by omega) (by omega) (by omega)).mono ?_; rintro e w10 ⟨uW, rfl, f10, q10⟩
  have b10 := b9.trans (f10.mono (by omega))
  have z10 := f10.size
  have tA10 := tA9.keep f10 (by omega)
  have tP10 := tP9.keep f10 (by omega)
  have tB10 := tB9.keep f10 (by omega)
  have tmA10 := tmA9.keep f10 (by omega)
  have tmP10 := tmP9.keep f10 (by omega)
  have tmB10 := tmB9.keep f10 (by omega)
  clear tA9 tP9 tB9 tmA9 tmP9 tmB9
  obtain ⟨aW, kW, rfl, laW, baW⟩ := q10.shape
  clear tmA10
  clear tmP10
  clear tmB10
  go_wp2_with fail
  refine name_call fun w11 hw11 => ?_
  have b11 : Below w.heap.size w w11 := by rw [hw11]; (repeat (with_reducible first | exact bR _ _ | assumption | refine bD ?_ | refine bN ?_ _ | refine bA ?_ _ | refine bS ?_ _))
  have z11 : w10.heap.size + 0 ≤ w11.heap.size := by rw [hw11]; simp
  have e11 : Below w10.heap.size w10 w11 := by rw [hw11]; (repeat (with_reducible first | exact bR _ _ | assumption | refine bD ?_ | refine bN ?_ _ | refine bA ?_ _ | refine bS ?_ _))
  have tA11 := tA10.keep e11 (by omega)
  have tP11 := tP10.keep e11 (by omega)
  have tB11 := tB10.keep e11 (by omega)
  have tW11 := q10.keep e11 (by omega)
  clear hw11 tA10 tP10 tB10
  refine (toIntS_own _ _ _ _ tA11 (by omega) (by omega)).mono ?_; rintro e w12 ⟨uxA, rfl, f12, q12⟩
  have b12 := b11.trans (f12.mono (by omega))
  have z12 := f12.size
  have tA12 := tA11.keep f12 (by omega)
  have tP12 := tP11.keep f12 (by omega)
  have tB12 := tB11.keep f12 (by omega)
  have tW12 := tW11.keep f12 (by omega)
  clear tA11 tP11 tB11 tW11
  obtain ⟨axA, kxA, rfl, laxA, baxA⟩ := q12.shape
  go_wp2_with fail
  refine name_call fun w13 hw13 => ?_
  have b13 : Below w.heap.size w w13 := by rw [hw13]; (repeat (with_reducible first | exact bR _ _ | assumption | refine bD ?_ | refine bN ?_ _ | refine bA ?_ _ | refine bS ?_ _))
  have z13 : w12.heap.size + 0 ≤ w13.heap.size := by rw [hw13]; simp
  have e13 : Below w12.heap.size w12 w13 := by rw [hw13]; (repeat (with_reducible first | exact bR _ _ | assumption | refine bD ?_ | refine bN ?_ _ | refine bA ?_ _ | refine bS ?_ _))
  have tA13 := tA12.keep e13 (by omega)
  have tP13 := tP12.keep e13 (by omega)
  have tB13 := tB12.keep e13 (by omega)
  have tW13 := tW12.keep e13 (by omega)
  have txA13 := q12.keep e13 (by omega)
  clear hw13 tA12 tP12 tB12 tW12
  refine (toIntSS_any false 0 w.heap.size _ tsP _ tP13 (by omega) hnP HEP.out).mono ?_; rintro e w14 ⟨uxP, rfl, f14, q14⟩
  have b14 := b13.trans (f14.mono (by omega))
  have z14 := f14.size
  have tA14 := tA13.keep f14 (by omega)
  have tP14 := tP13.keep f14 (by omega)
  have tB14 := tB13.keep f14 (by omega)
  have tW14 := tW13.keep f14 (by omega)
  have txA14 := txA13.keep f14 (by omega)
  clear tA13 tP13 tB13 tW13 txA13
  obtain ⟨axP, kxP, rfl, laxP, baxP⟩ := q14.shape
  go_wp2_with fail
  refine name_call fun w15 hw15 => ?_
  have b15 : Below w.heap.size w w15 := by rw [hw15]; (repeat (with_reducible first | exact bR _ _ | assumption | refine bD ?_ | refine bN ?_ _ | refine bA ?_ _ | refine bS ?_ _))
  have z15 : w14.heap.size + 0 ≤ w15.heap.size := by rw [hw15]; simp
  have e15 : Below w14.heap.size w14 w15 := by rw [hw15]; (repeat (with_reducible first | exact bR _ _ | assumption | refine bD ?_ | refine bN ?_ _ | refine bA ?_ _ | refine bS ?_ _))
  have tA15 := tA14.keep e15 (by omega)
  have tP15 := tP14.keep e15 (by omega)
  have tB15 := tB14.keep e15 (by omega)
  have tW15 := tW14.keep e15 (by omega)
  have txA15 := txA14.keep e15 (by omega)
  have txP15 := q14.keep e15 (by omega)
  clear hw15 tA14 tP14 tB14 tW14 txA14
  refine (toIntS_own _ _ _ _ tB15 (by omega) (by omega)).mono ?_; rintro e w16 ⟨uxB, rfl, f16, q16⟩
  have b16 := b15.trans (f16.mono (by omega))
  have z16 := f16.size
  have tA16 := tA15.keep f16 (by omega)
  have tP16 := tP15.keep f16 (by omega)
  have tB16 := tB15.keep f16 (by omega)
  have tW16 := tW15.keep f16 (by omega)
  have txA16 := txA15.keep f16 (by omega)
  have txP16 := txP15.keep f16 (by omega)
  clear tA15 tP15 tB15 tW15 txA15 txP15
  obtain ⟨axB, kxB, rfl, laxB, baxB⟩ := q16.shape
  go_wp2_with fail
  refine name_call fun w17 hw17 => ?_
  have b17 : Below w.heap.size w w17 := by rw [hw17]; (repeat (with_reducible first | exact bR _ _ | assumption | refine bD ?_ | refine bN ?_ _ | refine bA ?_ _ | refine bS ?_ _))
  have z17 : w16.heap.size + 0 ≤ w17.heap.size := by rw [hw17]; simp
  have e17 : Below w16.heap.size w16 w17 := by rw [hw17]; (repeat (with_reducible first | exact bR _ _ | assumption | refine bD ?_ | refine bN ?_ _ | refine bA ?_ _ | refine bS ?_ _))
  have tA17 := tA16.keep e17 (by omega)
  have tP17 := tP16.keep e17 (by omega)
  have tB17 := tB16.keep e17 (by omega)
  have tW17 := tW16.keep e17 (by omega)
  have txA17 := txA16.keep e17 (by omega)
  have txP17 := txP16.keep e17 (by omega)
  have txB17 := q16.keep e17 (by omega)
  clear hw17 tA16 tP16 tB16 tW16 txA16 txP16
  refine (root_impl _ _ _ _ _ _ _ _ tsA tsP tsB _ txA17.ints txP17 txB17.ints (by omega) (by omega) (by omega)).mono ?_; rintro e w18 ⟨uG, rfl, f18, q18⟩
  have b18 := b17.trans (f18.mono (by omega))
  have z18 := f18.size
  have tA18 := tA17.keep f18 (by omega)
  have tP18 := tP17.keep f18 (by omega)
  have tB18 := tB17.keep f18 (by omega)
  have tW18 := tW17.keep f18 (by omega)
  have txA18 := txA17.keep f18 (by omega)
  have txP18 := txP17.keep f18 (by omega)
  have txB18 := txB17.keep f18 (by omega)
  clear tA17 tP17 tB17 tW17 txA17 txP17 txB17
  obtain ⟨aG, kG, rfl, laG, baG⟩ := q18.shape
  go_wp2_with fail
  refine name_call fun w19 hw19 => ?_
  have b19 : Below w.heap.size w w19 := by rw [hw19]; (repeat (with_reducible first | exact bR _ _ | assumption | refine bD ?_ | refine bN ?_ _ | refine bA ?_ _ | refine bS ?_ _))
  have z19 : w18.heap.size + 0 ≤ w19.heap.size := by rw [hw19]; simp
  have e19 : Below w18.heap.size w18 w19 := by rw [hw19]; (repeat (with_reducible first | exact bR _ _ | assumption | refine bD ?_ | refine bN ?_ _ | refine bA ?_ _ | refine bS ?_ _))
  have tA19 := tA18.keep e19 (by omega)
  have tP19 := tP18.keep e19 (by omega)
  have tB19 := tB18.keep e19 (by omega)
  have tW19 := tW18.keep e19 (by omega)
  have txA19 := txA18.keep e19 (by omega)
  have txP19 := txP18.keep e19 (by omega)
  have txB19 := txB18.keep e19 (by omega)
  have tG19 := q18.keep e19 (by omega)
  clear hw19 tA18 tP18 tB18 tW18 txA18 txP18 txB18
  refine (eqNums_any _ _ _ _ _ _ _ _ _ _ _ tG19 tW19 (by omega) (by omega)).mono ?_; rw [dec_self]; rintro e w20 ⟨rfl, f20⟩
  have b20 := b19.trans (f20.mono (by omega))
  have z20 := f20.size
  have tA20 := tA19.keep f20 (by omega)
  have tP20 := tP19.keep f20 (by omega)
  have tB20 := tB19.keep f20 (by omega)
  have tW20 := tW19.keep f20 (by omega)
  have txA20 := txA19.keep f20 (by omega)
  have txP20 := txP19.keep f20 (by omega)
  have txB20 := txB19.keep f20 (by omega)
  have tG20 := tG19.keep f20 (by omega)
  clear tA19 tP19 tB19 tW19 txA19 txP19 txB19 tG19
  go_wp2_with fail
  refine name_call fun w21 hw21 => ?_
  have b21 : Below w.heap.size w w21 := by rw [hw21]; (repeat (with_reducible first | exact bR _ _ | assumption | refine bD ?_ | refine bN ?_ _ | refine bA ?_ _ | refine bS ?_ _))
  have z21 : w20.heap.size + 0 ≤ w21.heap.size := by rw [hw21]; simp
  have e21 : Below w20.heap.size w20 w21 := by rw [hw21]; (repeat (with_reducible first | exact bR _ _ | assumption | refine bD ?_ | refine bN ?_ _ | refine bA ?_ _ | refine bS ?_ _))
  have tA21 := tA20.keep e21 (by omega)
  have tP21 := tP20.keep e21 (by omega)
  have tB21 := tB20.keep e21 (by omega)
  have tW21 := tW20.keep e21 (by omega)
  have txA21 := txA20.keep e21 (by omega)
  have txP21 := txP20.keep e21 (by omega)
  have txB21 := txB20.keep e21 (by omega)
  have tG21 := tG20.keep e21 (by omega)
  clear hw21 tA20 tP20 tB20 tW20 txA20 txP20 txB20 tG20
  refine (toIntS_own _ _ _ _ tA21 (by omega) (by omega)).mono ?_; rintro e w22 ⟨uyA, rfl, f22, q22⟩
  have b22 := b21.trans (f22.mono (by omega))
  have z22 := f22.size
  have tA22 := tA21.keep f22 (by omega)
  have tP22 := tP21.keep f22 (by omega)
  have tB22 := tB21.keep f22 (by omega)
  have tW22 := tW21.keep f22 (by omega)
  have txA22 := txA21.keep f22 (by omega)
  have txP22 := txP21.keep f22 (by omega)
  have txB22 := txB21.keep f22 (by omega)
  have tG22 := tG21.keep f22 (by omega)
  clear tA21 tP21 tB21 tW21 txA21 txP21 txB21 tG21
  obtain ⟨ayA, kyA, rfl, layA, bayA⟩ := q22.shape
  go_wp2_with fail
  refine name_call fun w23 hw23 => ?_
  have b23 : Below w.heap.size w w23 := by rw [hw23]; (repeat (with_reducible first | exact bR _ _ | assumption | refine bD ?_ | refine bN ?_ _ | refine bA ?_ _ | refine bS ?_ _))
  have z23 : w22.heap.size + 0 ≤ w23.heap.size := by rw [hw23]; simp
  have e23 : Below w22.heap.size w22 w23 := by rw [hw23]; (repeat (with_reducible first | exact bR _ _ | assumption | refine bD ?_ | refine bN ?_ _ | refine bA ?_ _ | refine bS ?_ _))
  have tA23 := tA22.keep e23 (by omega)
  have tP23 := tP22.keep e23 (by omega)
  have tB23 := tB22.keep e23 (by omega)
  have tW23 := tW22.keep e23 (by omega)
  have txA23 := txA22.keep e23 (by omega)
  have txP23 := txP22.keep e23 (by omega)
  have txB23 := txB22.keep e23 (by omega)
  have tG23 := tG22.keep e23 (by omega)
  have tyA23 := q22.keep e23 (by omega)
  clear hw23 tA22 tP22 tB22 tW22 txA22 txP22 txB22 tG22
  refine (eqNums_any _ _ _ _ _ _ _ _ _ _ _ txA23 tyA23 (by omega) (by omega)).mono ?_; rw [dec_self]; rintro e w24 ⟨rfl, f24⟩
  have b24 := b23.trans (f24.mono (by omega))
  have z24 := f24.size
  have tA24 := tA23.keep f24 (by omega)
  have tP24 := tP23.keep f24 (by omega)
  have tB24 := tB23.keep f24 (by omega)
  have tW24 := tW23.keep f24 (by omega)
  have txA24 := txA23.keep f24 (by omega)
  have txP24 := txP23.keep f24 (by omega)
  have txB24 := txB23.keep f24 (by omega)
  have tG24 := tG23.keep f24 (by omega)
  have tyA24 := tyA23.keep f24 (by omega)
  clear tA23 tP23 tB23 tW23 txA23 txP23 txB23 tG23 tyA23
  clear tyA24
  go_wp2_with fail
  refine name_call fun w25 hw25 => ?_
  have b25 : Below w.heap.size w w25 := by rw [hw25]; (repeat (with_reducible first | exact bR _ _ | assumption | refine bD ?_ | refine bN ?_ _ | refine bA ?_ _ | refine bS ?_ _))
  have z25 : w24.heap.size + 0 ≤ w25.heap.size := by rw [hw25]; simp
  have e25 : Below w24.heap.size w24 w25 := by rw [hw25]; (repeat (with_reducible first | exact bR _ _ | assumption | refine bD ?_ | refine bN ?_ _ | refine bA ?_ _ | refine bS ?_ _))
  have tA25 := tA24.keep e25 (by omega)
  have tP25 := tP24.keep e25 (by omega)
  have tB25 := tB24.keep e25 (by omega)
  have tW25 := tW24.keep e25 (by omega)
  have txA25 := txA24.keep e25 (by omega)
  have txP25 := txP24.keep e25 (by omega)
  have txB25 := txB24.keep e25 (by omega)
  have tG25 := tG24.keep e25 (by omega)
  clear hw25 tA24 tP24 tB24 tW24 txA24 txP24 txB24 tG24
  refine (toIntSS_any false 0 w.heap.size _ tsP _ tP25 (by omega) hnP HEP.out).mono ?_; rintro e w26 ⟨uyP, rfl, f26, q26⟩
  have b26 := b25.trans (f26.mono (by omega))
  have z26 := f26.size
  have tA26 := tA25.keep f26 (by omega)
  have tP26 := tP25.keep f26 (by omega)
  have tB26 := tB25.keep f26 (by omega)
  have tW26 := tW25.keep f26 (by omega)
  have txA26 := txA25.keep f26 (by omega)
  have txP26 := txP25.keep f26 (by omega)
  have txB26 := txB25.keep f26 (by omega)
  have tG26 := tG25.keep f26 (by omega)
  clear tA25 tP25 tB25 tW25 txA25 txP25 txB25 tG25
  obtain ⟨ayP, kyP, rfl, layP, bayP⟩ := q26.shape
  go_wp2_with fail
  refine name_call fun w27 hw27 => ?_
  have b27 : Below w.heap.size w w27 := by rw [hw27]; (repeat (with_reducible first | exact bR _ _ | assumption | refine bD ?_ | refine bN ?_ _ | refine bA ?_ _ | refine bS ?_ _))
  have z27 : w26.heap.size + 0 ≤ w27.heap.size := by rw [hw27]; simp
  have e27 : Below w26.heap.size w26 w27 := by rw [hw27]; (repeat (with_reducible first | exact bR _ _ | assumption | refine bD ?_ | refine bN ?_ _ | refine bA ?_ _ | refine bS ?_ _))
  have tA27 := tA26.keep e27 (by omega)
  have tP27 := tP26.keep e27 (by omega)
  have tB27 := tB26.keep e27 (by omega)
  have tW27 := tW26.keep e27 (by omega)
  have txA27 := txA26.keep e27 (by omega)
  have txP27 := txP26.keep e27 (by omega)
  have txB27 := txB26.keep e27 (by omega)
  have tG27 := tG26.keep e27 (by omega)
  have tyP27 := q26.keep e27 (by omega)
  clear hw27 tA26 tP26 tB26 tW26 txA26 txP26 txB26 tG26
  refine (eqIntSS_same _ _ _ _ _ _ _ _ _ _ txP27 tyP27 (by omega) (by omega)).mono ?_; rintro e w28 ⟨rfl, f28⟩
  have b28 := b27.trans (f28.mono (by omega))
  have z28 := f28.size
  have tA28 := tA27.keep f28 (by omega)
  have tP28 := tP27.keep f28 (by omega)
  have tB28 := tB27.keep f28 (by omega)
  have tW28 := tW27.keep f28 (by omega)
  have txA28 := txA27.keep f28 (by omega)
  have txP28 := txP27.keep f28 (by omega)
  have txB28 := txB27.keep f28 (by omega)
  have tG28 := tG27.keep f28 (by omega)
  have tyP28 := tyP27.keep f28 (by omega)
  clear tA27 tP27 tB27 tW27 txA27 txP27 txB27 tG27 tyP27
  clear tyP28
  go_wp2_with fail
  refine name_call fun w29 hw29 => ?_
  have b29 : Below w.heap.size w w29 := by rw [hw29]; (repeat (with_reducible first | exact bR _ _ | assumption | refine bD ?_ | refine bN ?_ _ | refine bA ?_ _ | refine bS ?_ _))
  have z29 : w28.heap.size + 0 ≤ w29.heap.size := by rw [hw29]; simp
  have e29 : Below w28.heap.size w28 w29 := by rw [hw29]; (repeat (with_reducible first | exact bR _ _ | assumption | refine bD ?_ | refine bN ?_ _ | refine bA ?_ _ | refine bS ?_ _))
  have tA29 := tA28.keep e29 (by omega)
  have tP29 := tP28.keep e29 (by omega)
  have tB29 := tB28.keep e29 (by omega)
  have tW29 := tW28.keep e29 (by omega)
  have txA29 := txA28.keep e29 (by omega)
  have txP29 := txP28.keep e29 (by omega)
  have txB29 := txB28.keep e29 (by omega)
  have tG29 := tG28.keep e29 (by omega)
  clear hw29 tA28 tP28 tB28 tW28 txA28 txP28 txB28 tG28
  refine (toIntS_own _ _ _ _ tB29 (by omega) (by omega)).mono ?_; rintro e w30 ⟨uyB, rfl, f30, q30⟩
  have b30 := b29.trans (f30.mono (by omega))
  have z30 := f30.size
  have tA30 := tA29.keep f30 (by omega)
  have tP30 := tP29.keep f30 (by omega)
  have tB30 := tB29.keep f30 (by omega)
  have tW30 := tW29.keep f30 (by omega)
  have txA30 := txA29.keep f30 (by omega)
  have txP30 := txP29.keep f30 (by omega)
  have txB30 := txB29.keep f30 (by omega)
  have tG30 := tG29.keep f30 (by omega)
  clear tA29 tP29 tB29 tW29 txA29 txP29 txB29 tG29
  obtain ⟨ayB, kyB, rfl, layB, bayB⟩ := q30.shape
  go_wp2_with fail
  refine name_call fun w31 hw31 => ?_
  have b31 : Below w.heap.size w w31 := by rw [hw31]; (repeat (with_reducible first | exact bR _ _ | assumption | refine bD ?_ | refine bN ?_ _ | refine bA ?_ _ | refine bS ?_ _))
  have z31 : w30.heap.size + 0 ≤ w31.heap.size := by rw [hw31]; simp
  have e31 : Below w30.heap.size w30 w31 := by rw [hw31]; (repeat (with_reducible first | exact bR _ _ | assumption | refine bD ?_ | refine bN ?_ _ | refine bA ?_ _ | refine bS ?_ _))
  have tA31 := tA30.keep e31 (by omega)
  have tP31 := tP30.keep e31 (by omega)
  have tB31 := tB30.keep e31 (by omega)
  have tW31 := tW30.keep e31 (by omega)
  have txA31 := txA30.keep e31 (by omega)
  have txP31 := txP30.keep e31 (by omega)
  have txB31 := txB30.keep e31 (by omega)
  have tG31 := tG30.keep e31 (by omega)
  have tyB31 := q30.keep e31 (by omega)
  clear hw31 tA30 tP30 tB30 tW30 txA30 txP30 txB30 tG30
  refine (eqNums_any _ _ _ _ _ _ _ _ _ _ _ txB31 tyB31 (by omega) (by omega)).mono ?_; rw [dec_self]; rintro e w32 ⟨rfl, f32⟩
  have b32 := b31.trans (f32.mono (by omega))
  have z32 := f32.size
  have tA32 := tA31.keep f32 (by omega)
  have tP32 := tP31.keep f32 (by omega)
  have tB32 := tB31.keep f32 (by omega)
  have tW32 := tW31.keep f32 (by omega)
  have txA32 := txA31.keep f32 (by omega)
  have txP32 := txP31.keep f32 (by omega)
  have txB32 := txB31.keep f32 (by omega)
  have tG32 := tG31.keep f32 (by omega)
  have tyB32 := tyB31.keep f32 (by omega)
  clear tA31 tP31 tB31 tW31 txA31 txP31 txB31 tG31 tyB31
  clear tyB32
  go_wp2_with fail
  refine name_call fun w33 hw33 => ?_
  have b33 : Below w.heap.size w w33 := by rw [hw33]; (repeat (with_reducible first | exact bR _ _ | assumption | refine bD ?_ | refine bN ?_ _ | refine bA ?_ _ | refine bS ?_ _))
  have z33 : w32.heap.size + 0 ≤ w33.heap.size := by rw [hw33]; simp
  have e33 : Below w32.heap.size w32 w33 := by rw [hw33]; (repeat (with_reducible first | exact bR _ _ | assumption | refine bD ?_ | refine bN ?_ _ | refine bA ?_ _ | refine bS ?_ _))
  have tA33 := tA32.keep e33 (by omega)
  have tP33 := tP32.keep e33 (by omega)
  have tB33 := tB32.keep e33 (by omega)
  have tW33 := tW32.keep e33 (by omega)
  have txA33 := txA32.keep e33 (by omega)
  have txP33 := txP32.keep e33 (by omega)
  have txB33 := txB32.keep e33 (by omega)
  have tG33 := tG32.keep e33 (by omega)
  clear hw33 tA32 tP32 tB32 tW32 txA32 txP32 txB32 tG32
  refine (markNums_any _ _ _ _ (1) _ txA33 (by omega) (by omega) (by omega)).mono ?_; rintro e w34 ⟨rfl, f34, q34⟩
  have d34 : Below w.heap.size w33 w34 := f34.below (by omega) (by omega)
  have b34 := b33.trans d34
  have z34 := f34.size
  have tA34 := tA33.keep d34 (Nat.le_refl _)
  have tP34 := tP33.keep d34 (Nat.le_refl _)
  have tB34 := tB33.keep d34 (Nat.le_refl _)
  have tW34 := tW33.only f34 (by omega) (by omega)
  have txP34 := txP33.only f34 (by omega) (by omega)
  have txB34 := txB33.only f34 (by omega) (by omega)
  have tG34 := tG33.only f34 (by omega) (by omega)
  clear tA33 tP33 tB33 tW33 txA33 txP33 txB33 tG33
  go_wp2_with fail
  refine name_call fun w35 hw35 => ?_
  have b35 : Below w.heap.size w w35 := by rw [hw35]; (repeat (with_reducible first | exact bR _ _ | assumption | refine bD ?_ | refine bN ?_ _ | refine bA ?_ _ | refine bS ?_ _))
  have z35 : w34.heap.size + 0 ≤ w35.heap.size := by rw [hw35]; simp
  have e35 : Below w34.heap.size w34 w35 := by rw [hw35]; (repeat (with_reducible first | exact bR _ _ | assumption | refine bD ?_ | refine bN ?_ _ | refine bA ?_ _ | refine bS ?_ _))
  have tA35 := tA34.keep e35 (by omega)
  have tP35 := tP34.keep e35 (by omega)
  have tB35 := tB34.keep e35 (by omega)
  have tW35 := tW34.keep e35 (by omega)
  have txA35 := q34.keep e35 (by omega)
  have txP35 := txP34.keep e35 (by omega)
  have txB35 := txB34.keep e35 (by omega)
  have tG35 := tG34.keep e35 (by omega)
  clear hw35 tA34 tP34 tB34 tW34 txP34 txB34 tG34
  refine (markIntSS_any _ _ _ tsP (1 + tsA.length) _ txP35 (by omega) (by omega)).mono ?_; rintro e w36 ⟨rfl, f36, q36⟩
  have d36 : Below w.heap.size w35 w36 := f36.below (by omega) (by omega)
  have b36 := b35.trans d36
  have z36 := f36.size
  have tA36 := tA35.keep d36 (Nat.le_refl _)
  have tP36 := tP35.keep d36 (Nat.le_refl _)
  have tB36 := tB35.keep d36 (Nat.le_refl _)
  have tW36 := tW35.only f36 (by omega) (by omega)
  have txA36 := txA35.only f36 (by omega) (by omega)
  have txB36 := txB35.only f36 (by omega) (by omega)
  have tG36 := tG35.only f36 (by omega) (by omega)
  clear tA35 tP35 tB35 tW35 txA35 txP35 txB35 tG35
  go_wp2_with fail
  refine name_call fun w37 hw37 => ?_
  have b37 : Below w.heap.size w w37 := by rw [hw37]; (repeat (with_reducible first | exact bR _ _ | assumption | refine bD ?_ | refine bN ?_ _ | refine bA ?_ _ | refine bS ?_ _))
  have z37 : w36.heap.size + 0 ≤ w37.heap.size := by rw [hw37]; simp
  have e37 : Below w36.heap.size w36 w37 := by rw [hw37]; (repeat (with_reducible first | exact bR _ _ | assumption | refine bD ?_ | refine bN ?_ _ | refine bA ?_ _ | refine bS ?_ _))
  have tA37 := tA36.keep e37 (by omega)
  have tP37 := tP36.keep e37 (by omega)
  have tB37 := tB36.keep e37 (by omega)
  have tW37 := tW36.keep e37 (by omega)
  have txA37 := txA36.keep e37 (by omega)
  have txP37 := q36.keep e37 (by omega)
  have txB37 := txB36.keep e37 (by omega)
  have tG37 := tG36.keep e37 (by omega)
  clear hw37 tA36 tP36 tB36 tW36 txA36 txB36 tG36
  refine (markNums_any _ _ _ _ (1 + tsA.length + tot fI tsP) _ txB37 (by omega) (by omega) (by omega)).mono ?_; rintro e w38 ⟨rfl, f38, q38⟩
  have d38 : Below w.heap.size w37 w38 := f38.below (by omega) (by omega)
  have b38 := b37.trans d38
  have z38 := f38.size
  have tA38 := tA37.keep d38 (Nat.le_refl _)
  have tP38 := tP37.keep d38 (Nat.le_refl _)
  have tB38 := tB37.keep d38 (Nat.le_refl _)
  have tW38 := tW37.only f38 (by omega) (by omega)
  have txA38 := txA37.only f38 (by omega) (by omega)
  have txP38 := txP37.only f38 (by omega) (by omega)
  have tG38 := tG37.only f38 (by omega) (by omega)
  clear tA37 tP37 tB37 tW37 txA37 txP37 txB37 tG37
  go_wp2_with fail
  refine name_call fun w39 hw39 => ?_
  have b39 : Below w.heap.size w w39 := by rw [hw39]; (repeat (with_reducible first | exact bR _ _ | assumption | refine bD ?_ | refine bN ?_ _ | refine bA ?_ _ | refine bS ?_ _))
  have z39 : w38.heap.size + 0 ≤ w39.heap.size := by rw [hw39]; simp
  have e39 : Below w38.heap.size w38 w39 := by rw [hw39]; (repeat (with_reducible first | exact bR _ _ | assumption | refine bD ?_ | refine bN ?_ _ | refine bA ?_ _ | refine bS ?_ _))
  have tA39 := tA38.keep e39 (by omega)
  have tP39 := tP38.keep e39 (by omega)
  have tB39 := tB38.keep e39 (by omega)
  have tW39 := tW38.keep e39 (by omega)
  have txA39 := txA38.keep e39 (by omega)
  have txP39 := txP38.keep e39 (by omega)
  have txB39 := q38.keep e39 (by omega)
  have tG39 := tG38.keep e39 (by omega)
  clear hw39 tA38 tP38 tB38 tW38 txA38 txP38 tG38
  refine (eqNums_any _ _ _ _ _ _ _ _ _ _ _ tG39 tW39 (by omega) (by omega)).mono ?_; rw [dec_self]; rintro e w40 ⟨rfl, f40⟩
  have b40 := b39.trans (f40.mono (by omega))
  have z40 := f40.size
  have tA40 := tA39.keep f40 (by omega)
  have tP40 := tP39.keep f40 (by omega)
  have tB40 := tB39.keep f40 (by omega)
  have tW40 := tW39.keep f40 (by omega)
  have txA40 := txA39.keep f40 (by omega)
  have txP40 := txP39.keep f40 (by omega)
  have txB40 := txB39.keep f40 (by omega)
  have tG40 := tG39.keep f40 (by omega)
  clear tA39 tP39 tB39 tW39 txA39 txP39 txB39 tG39
  clear txA40
  clear txP40
  clear txB40
  go_wp2_with fail
  refine name_call fun w41 hw41 => ?_
  have b41 : Below w.heap.size w w41 := by rw [hw41]; (repeat (with_reducible first | exact bR _ _ | assumption | refine bD ?_ | refine bN ?_ _ | refine bA ?_ _ | refine bS ?_ _))
  have z41 : w40.heap.size + 0 ≤ w41.heap.size := by rw [hw41]; simp
  have e41 : Below w40.heap.size w40 w41 := by rw [hw41]; (repeat (with_reducible first | exact bR _ _ | assumption | refine bD ?_ | refine bN ?_ _ | refine bA ?_ _ | refine bS ?_ _))
  have tA41 := tA40.keep e41 (by omega)
  have tP41 := tP40.keep e41 (by omega)
  have tB41 := tB40.keep e41 (by omega)
  have tW41 := tW40.keep e41 (by omega)
  have tG41 := tG40.keep e41 (by omega)
  clear hw41 tA40 tP40 tB40 tW40 tG40
  refine (markNums_any _ _ _ _ 1 _ tG41 (by omega) (by omega) (by omega)).mono ?_; rintro e w42 ⟨rfl, f42, q42⟩
  have d42 : Below w.heap.size w41 w42 := f42.below (by omega) (by omega)
  have b42 := b41.trans d42
  have z42 := f42.size
  have tA42 := tA41.keep d42 (Nat.le_refl _)
  have tP42 := tP41.keep d42 (Nat.le_refl _)
  have tB42 := tB41.keep d42 (Nat.le_refl _)
  have tW42 := tW41.only f42 (by omega) (by omega)
  clear tA41 tP41 tB41 tW41 tG41
  go_wp2_with fail
  refine name_call fun w43 hw43 => ?_
  have b43 : Below w.heap.size w w43 := by rw [hw43]; (repeat (with_reducible first | exact bR _ _ | assumption | refine bD ?_ | refine bN ?_ _ | refine bA ?_ _ | refine bS ?_ _))
  have z43 : w42.heap.size + 0 ≤ w43.heap.size := by rw [hw43]; simp
  have e43 : Below w42.heap.size w42 w43 := by rw [hw43]; (repeat (with_reducible first | exact bR _ _ | assumption | refine bD ?_ | refine bN ?_ _ | refine bA ?_ _ | refine bS ?_ _))
  have tA43 := tA42.keep e43 (by omega)
  have tP43 := tP42.keep e43 (by omega)
  have tB43 := tB42.keep e43 (by omega)
  have tW43 := tW42.keep e43 (by omega)
  have tG43 := q42.keep e43 (by omega)
  clear hw43 tA42 tP42 tB42 tW42
  refine (heldNums_any _ _ _ _ _ 1 _ tG43 (by omega) (by omega) (by omega)).mono ?_; rintro e w44 ⟨rfl, f44⟩
  have b44 := b43.trans (f44.mono (by omega))
  have z44 := f44.size
  have tA44 := tA43.keep f44 (by omega)
  have tP44 := tP43.keep f44 (by omega)
  have tB44 := tB43.keep f44 (by omega)
  have tW44 := tW43.keep f44 (by omega)
  have tG44 := tG43.keep f44 (by omega)
  clear tA43 tP43 tB43 tW43 tG43
  go_wp2_with fail
  refine name_call fun w45 hw45 => ?_
  have b45 : Below w.heap.size w w45 := by rw [hw45]; (repeat (with_reducible first | exact bR _ _ | assumption | refine bD ?_ | refine bN ?_ _ | refine bA ?_ _ | refine bS ?_ _))
  have z45 : w44.heap.size + 0 ≤ w45.heap.size := by rw [hw45]; simp
  have e45 : Below w44.heap.size w44 w45 := by rw [hw45]; (repeat (with_reducible first | exact bR _ _ | assumption | refine bD ?_ | refine bN ?_ _ | refine bA ?_ _ | refine bS ?_ _))
  have tA45 := tA44.keep e45 (by omega)
  have tP45 := tP44.keep e45 (by omega)
  have tB45 := tB44.keep e45 (by omega)
  have tW45 := tW44.keep e45 (by omega)
  have tG45 := tG44.keep e45 (by omega)
  clear hw45 tA44 tP44 tB44 tW44 tG44
  refine (toIntS_own _ _ _ _ tA45 (by omega) (by omega)).mono ?_; rintro e w46 ⟨unA, rfl, f46, q46⟩
  have b46 := b45.trans (f46.mono (by omega))
  have z46 := f46.size
  have tA46 := tA45.keep f46 (by omega)
  have tP46 := tP45.keep f46 (by omega)
  have tB46 := tB45.keep f46 (by omega)
  have tW46 := tW45.keep f46 (by omega)
  have tG46 := tG45.keep f46 (by omega)
  clear tA45 tP45 tB45 tW45 tG45
  obtain ⟨anA, knA, rfl, lanA, banA⟩ := q46.shape
  go_wp2_with fail
  refine name_call fun w47 hw47 => ?_
  have b47 : Below w.heap.size w w47 := by rw [hw47]; (repeat (with_reducible first | exact bR _ _ | assumption | refine bD ?_ | refine bN ?_ _ | refine bA ?_ _ | refine bS ?_ _))
  have z47 : w46.heap.size + 0 ≤ w47.heap.size := by rw [hw47]; simp
  have e47 : Below w46.heap.size w46 w47 := by rw [hw47]; (repeat (with_reducible first | exact bR _ _ | assumption | refine bD ?_ | refine bN ?_ _ | refine bA ?_ _ | refine bS ?_ _))
  have tA47 := tA46.keep e47 (by omega)
  have tP47 := tP46.keep e47 (by omega)
  have tB47 := tB46.keep e47 (by omega)
  have tW47 := tW46.keep e47 (by omega)
  have tG47 := tG46.keep e47 (by omega)
  have tnA47 := q46.keep e47 (by omega)
  clear hw47 tA46 tP46 tB46 tW46 tG46
  refine (toIntSS_any false 0 w.heap.size _ tsP _ tP47 (by omega) hnP HEP.out).mono ?_; rintro e w48 ⟨unP, rfl, f48, q48⟩
  have b48 := b47.trans (f48.mono (by omega))
  have z48 := f48.size
  have tA48 := tA47.keep f48 (by omega)
  have tP48 := tP47.keep f48 (by omega)
  have tB48 := tB47.keep f48 (by omega)
  have tW48 := tW47.keep f48 (by omega)
  have tG48 := tG47.keep f48 (by omega)
  have tnA48 := tnA47.keep f48 (by omega)
  clear tA47 tP47 tB47 tW47 tG47 tnA47
  obtain ⟨anP, knP, rfl, lanP, banP⟩ := q48.shape
  go_wp2_with fail
  refine name_call fun w49 hw49 => ?_
  have b49 : Below w.heap.size w w49 := by rw [hw49]; (repeat (with_reducible first | exact bR _ _ | assumption | refine bD ?_ | refine bN ?_ _ | refine bA ?_ _ | refine bS ?_ _))
  have z49 : w48.heap.size + 0 ≤ w49.heap.size := by rw [hw49]; simp
  have e49 : Below w48.heap.size w48 w49 := by rw [hw49]; (repeat (with_reducible first | exact bR _ _ | assumption | refine bD ?_ | refine bN ?_ _ | refine bA ?_ _ | refine bS ?_ _))
  have tA49 := tA48.keep e49 (by omega)
  have tP49 := tP48.keep e49 (by omega)
  have tB49 := tB48.keep e49 (by omega)
  have tW49 := tW48.keep e49 (by omega)
  have tG49 := tG48.keep e49 (by omega)
  have tnA49 := tnA48.keep e49 (by omega)
  have tnP49 := q48.keep e49 (by omega)
  clear hw49 tA48 tP48 tB48 tW48 tG48 tnA48
  refine (toIntS_own _ _ _ _ tB49 (by omega) (by omega)).mono ?_; rintro e w50 ⟨unB, rfl, f50, q50⟩
  have b50 := b49.trans (f50.mono (by omega))
  have z50 := f50.size
  have tA50 := tA49.keep f50 (by omega)
  have tP50 := tP49.keep f50 (by omega)
  have tB50 := tB49.keep f50 (by omega)
  have tW50 := tW49.keep f50 (by omega)
  have tG50 := tG49.keep f50 (by omega)
  have tnA50 := tnA49.keep f50 (by omega)
  have tnP50 := tnP49.keep f50 (by omega)
  clear tA49 tP49 tB49 tW49 tG49 tnA49 tnP49
  obtain ⟨anB, knB, rfl, lanB, banB⟩ := q50.shape
  go_wp2_with fail
  refine name_call fun w51 hw51 => ?_
  have b51 : Below w.heap.size w w51 := by rw [hw51]; (repeat (with_reducible first | exact bR _ _ | assumption | refine bD ?_ | refine bN ?_ _ | refine bA ?_ _ | refine bS ?_ _))
  have z51 : w50.heap.size + 0 ≤ w51.heap.size := by rw [hw51]; simp
  have e51 : Below w50.heap.size w50 w51 := by rw [hw51]; (repeat (with_reducible first | exact bR _ _ | assumption | refine bD ?_ | refine bN ?_ _ | refine bA ?_ _ | refine bS ?_ _))
  have tA51 := tA50.keep e51 (by omega)
  have tP51 := tP50.keep e51 (by omega)
  have tB51 := tB50.keep e51 (by omega)
  have tW51 := tW50.keep e51 (by omega)
  have tG51 := tG50.keep e51 (by omega)
  have tnA51 := tnA50.keep e51 (by omega)
  have tnP51 := tnP50.keep e51 (by omega)
  have tnB51 := q50.keep e51 (by omega)
  clear hw51 tA50 tP50 tB50 tW50 tG50 tnA50 tnP50
  refine (root_impl _ _ _ _ _ _ _ _ tsA tsP tsB _ tnA51.ints tnP51 tnB51.ints (by omega) (by omega) (by omega)).mono ?_; rintro e w52 ⟨uH, rfl, f52, q52⟩
  have b52 := b51.trans (f52.mono (by omega))
  have z52 := f52.size
  have tA52 := tA51.keep f52 (by omega)
  have tP52 := tP51.keep f52 (by omega)
  have tB52 := tB51.keep f52 (by omega)
  have tW52 := tW51.keep f52 (by omega)
  have tG52 := tG51.keep f52 (by omega)
  have tnA52 := tnA51.keep f52 (by omega)
  have tnP52 := tnP51.keep f52 (by omega)
  have tnB52 := tnB51.keep f52 (by omega)
  clear tA51 tP51 tB51 tW51 tG51 tnA51 tnP51 tnB51
  obtain ⟨aH, kH, rfl, laH, baH⟩ := q52.shape
  clear tnA52
  clear tnP52
  clear tnB52
  go_wp2_with fail
  refine name_call fun w53 hw53 => ?_
  have b53 : Below w.heap.size w w53 := by rw [hw53]; (repeat (with_reducible first | exact bR _ _ | assumption | refine bD ?_ | refine bN ?_ _ | refine bA ?_ _ | refine bS ?_ _))
  have z53 : w52.heap.size + 0 ≤ w53.heap.size := by rw [hw53]; simp
  have e53 : Below w52.heap.size w52 w53 := by rw [hw53]; (repeat (with_reducible first | exact bR _ _ | assumption | refine bD ?_ | refine bN ?_ _ | refine bA ?_ _ | refine bS ?_ _))
  have tA53 := tA52.keep e53 (by omega)
  have tP53 := tP52.keep e53 (by omega)
  have tB53 := tB52.keep e53 (by omega)
  have tW53 := tW52.keep e53 (by omega)
  have tG53 := tG52.keep e53 (by omega)
  have tH53 := q52.keep e53 (by omega)
  clear hw53 tA52 tP52 tB52 tW52 tG52
  refine (eqNums_any _ _ _ _ _ _ _ _ _ _ _ tH53 tW53 (by omega) (by omega)).mono ?_; rw [dec_self]; rintro e w54 ⟨rfl, f54⟩
  have b54 := b53.trans (f54.mono (by omega))
  have z54 := f54.size
  have tA54 := tA53.keep f54 (by omega)
  have tP54 := tP53.keep f54 (by omega)
  have tB54 := tB53.keep f54 (by omega)
  have tW54 := tW53.keep f54 (by omega)
  have tG54 := tG53.keep f54 (by omega)
  have tH54 := tH53.keep f54 (by omega)
  clear tA53 tP53 tB53 tW53 tG53 tH53
  go_wp2_with fail
  refine name_call fun w55 hw55 => ?_
  have b55 : Below w.heap.size w w55 := by rw [hw55]; (repeat (with_reducible first | exact bR _ _ | assumption | refine bD ?_ | refine bN ?_ _ | refine bA ?_ _ | refine bS ?_ _))
  have z55 : w54.heap.size + 0 ≤ w55.heap.size := by rw [hw55]; simp
  have e55 : Below w54.heap.size w54 w55 := by rw [hw55]; (repeat (with_reducible first | exact bR _ _ | assumption | refine bD ?_ | refine bN ?_ _ | refine bA ?_ _ | refine bS ?_ _))
  have tA55 := tA54.keep e55 (by omega)
  have tP55 := tP54.keep e55 (by omega)
  have tB55 := tB54.keep e55 (by omega)
  have tW55 := tW54.keep e55 (by omega)
  have tG55 := tG54.keep e55 (by omega)
  have tH55 := tH54.keep e55 (by omega)
  clear hw55 tA54 tP54 tB54 tW54 tG54 tH54
  refine (heldNums_any _ _ _ _ _ 1 _ tG55 (by omega) (by omega) (by omega)).mono ?_; rintro e w56 ⟨rfl, f56⟩
  have b56 := b55.trans (f56.mono (by omega))
  have z56 := f56.size
  have tA56 := tA55.keep f56 (by omega)
  have tP56 := tP55.keep f56 (by omega)
  have tB56 := tB55.keep f56 (by omega)
  have tW56 := tW55.keep f56 (by omega)
  have tG56 := tG55.keep f56 (by omega)
  have tH56 := tH55.keep f56 (by omega)
  clear tA55 tP55 tB55 tW55 tG55 tH55
  go_wp2_with fail
  go_ret
  exact ⟨rfl, b56⟩
end Go.Proofs.Ytldeckiflghpcaa.L
