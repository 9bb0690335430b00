/- Exact laws of layer 3 (written by tools/lawsys.py): the program's function and its model return the same, write into no argument, and own what they return. -/
import Derived.Test.YtplphfgacomhkaaCodeJ
import Derived.Test.YtplphfgacomhkaaToInts2
namespace Go.Proofs.Ytplphfgacomhkaa.L
open Go.RowKit Go.Proofs.Ytplphfgacomhkaa.S
set_option linter.unusedVariables false
set_option linter.unusedSimpArgs false

set_option maxRecDepth 100000 in
set_option maxHeartbeats 6400000 in
theorem law_FnExactDecode64 (vA : Value) (tsA : List Int) (w : World) (hA : Ints w.heap.size w vA tsA) :
    Calls Try.prog 5 #[vA] w fun e w' => e = .returned (.bool true) ∧ Below w.heap.size w w' := by
  obtain ⟨aA, kA, rfl, laA, baA⟩ := hA.shape
  by_cases hlA : tsA.length ≤ 1048576
  case' neg =>
    go_enter Try.func5, Try.ntmps5
    go_wp2_with fail
    go_ret
    exact ⟨rfl, by (repeat (with_reducible first | exact bR _ _ | assumption | refine bD ?_ | refine bN ?_ _ | refine bA ?_ _ | refine bS ?_ _))⟩
  have hF : (decL tsA).length ≤ 12 := decL_len tsA
  go_enter Try.func5, Try.ntmps5
  go_wp2_with fail
  refine name_call fun w1 hw1 => ?_
  have b1 : Below w.heap.size w w1 := by rw [hw1]; (repeat (with_reducible first | exact bR _ _ | assumption | refine bD ?_ | refine bN ?_ _ | refine bA ?_ _ | refine bS ?_ _))
  have z1 : w.heap.size + 0 ≤ w1.heap.size := by rw [hw1]; simp
  have e1 : Below w.heap.size w w1 := by rw [hw1]; (repeat (with_reducible first | exact bR _ _ | assumption | refine bD ?_ | refine bN ?_ _ | refine bA ?_ _ | refine bS ?_ _))
  have tA1 := hA.keep e1 (by omega)
  clear hw1
  refine (toIntS_own _ _ _ _ tA1 (by omega) (by omega)).mono ?_; rintro e w2 ⟨umA, rfl, f2, q2⟩
  have b2 := b1.trans (f2.mono (by omega))
  have z2 := f2.size
  have tA2 := tA1.keep f2 (by omega)
  clear tA1
  obtain ⟨amA, kmA, rfl, lamA, bamA⟩ := q2.shape
  go_wp2_with fail
  refine name_call fun w3 hw3 => ?_
  have b3 : Below w.heap.size w w3 := by rw [hw3]; (repeat (with_reducible first | exact bR _ _ | assumption | refine bD ?_ | refine bN ?_ _ | refine bA ?_ _ | refine bS ?_ _))
  have z3 : w2.heap.size + 0 ≤ w3.heap.size := by rw [hw3]; simp
  have e3 : Below w2.heap.size w2 w3 := by rw [hw3]; (repeat (with_reducible first | exact bR _ _ | assumption | refine bD ?_ | refine bN ?_ _ | refine bA ?_ _ | refine bS ?_ _))
  have tA3 := tA2.keep e3 (by omega)
  have tmA3 := q2.keep e3 (by omega)
  clear hw3 tA2
  refine (decode_spec _ _ tsA _ tmA3.ints (by omega)).mono ?_; rintro e w4 ⟨uW, rfl, f4, q4⟩
  have b4 := b3.trans (f4.mono (by omega))
  have z4 := f4.size
  have tA4 := tA3.keep f4 (by omega)
  have tmA4 := tmA3.keep f4 (by omega)
  clear tA3 tmA3
  obtain ⟨aW, kW, rfl, laW, baW⟩ := q4.shape
  clear tmA4
  go_wp2_with fail
  refine name_call fun w5 hw5 => ?_
  have b5 : Below w.heap.size w w5 := by rw [hw5]; (repeat (with_reducible first | exact bR _ _ | assumption | refine bD ?_ | refine bN ?_ _ | refine bA ?_ _ | refine bS ?_ _))
  have z5 : w4.heap.size + 0 ≤ w5.heap.size := by rw [hw5]; simp
  have e5 : Below w4.heap.size w4 w5 := by rw [hw5]; (repeat (with_reducible first | exact bR _ _ | assumption | refine bD ?_ | refine bN ?_ _ | refine bA ?_ _ | refine bS ?_ _))
  have tA5 := tA4.keep e5 (by omega)
  have tW5 := q4.keep e5 (by omega)
  clear hw5 tA4
  refine (toIntS_own _ _ _ _ tA5 (by omega) (by omega)).mono ?_; rintro e w6 ⟨uxA, rfl, f6, q6⟩
  have b6 := b5.trans (f6.mono (by omega))
  have z6 := f6.size
  have tA6 := tA5.keep f6 (by omega)
  have tW6 := tW5.keep f6 (by omega)
  clear tA5 tW5
  obtain ⟨axA, kxA, rfl, laxA, baxA⟩ := q6.shape
  go_wp2_with fail
  refine name_call fun w7 hw7 => ?_
  have b7 : Below w.heap.size w w7 := by rw [hw7]; (repeat (with_reducible first | exact bR _ _ | assumption | refine bD ?_ | refine bN ?_ _ | refine bA ?_ _ | refine bS ?_ _))
  have z7 : w6.heap.size + 0 ≤ w7.heap.size := by rw [hw7]; simp
  have e7 : Below w6.heap.size w6 w7 := by rw [hw7]; (repeat (with_reducible first | exact bR _ _ | assumption | refine bD ?_ | refine bN ?_ _ | refine bA ?_ _ | refine bS ?_ _))
  have tA7 := tA6.keep e7 (by omega)
  have tW7 := tW6.keep e7 (by omega)
  have txA7 := q6.keep e7 (by omega)
  clear hw7 tA6 tW6
  refine (decode_impl _ _ tsA _ txA7.ints (by omega)).mono ?_; rintro e w8 ⟨uG, rfl, f8, q8⟩
  have b8 := b7.trans (f8.mono (by omega))
  have z8 := f8.size
  have tA8 := tA7.keep f8 (by omega)
  have tW8 := tW7.keep f8 (by omega)
  have txA8 := txA7.keep f8 (by omega)
  clear tA7 tW7 txA7
  obtain ⟨aG, kG, rfl, laG, baG⟩ := q8.shape
  go_wp2_with fail
  refine name_call fun w9 hw9 => ?_
  have b9 : Below w.heap.size w w9 := by rw [hw9]; (repeat (with_reducible first | exact bR _ _ | assumption | refine bD ?_ | refine bN ?_ _ | refine bA ?_ _ | refine bS ?_ _))
  have z9 : w8.heap.size + 0 ≤ w9.heap.size := by rw [hw9]; simp
  have e9 : Below w8.heap.size w8 w9 := by rw [hw9]; (repeat (with_reducible first | exact bR _ _ | assumption | refine bD ?_ | refine bN ?_ _ | refine bA ?_ _ | refine bS ?_ _))
  have tA9 := tA8.keep e9 (by omega)
  have tW9 := tW8.keep e9 (by omega)
  have txA9 := txA8.keep e9 (by omega)
  have tG9 := q8.keep e9 (by omega)
  clear hw9 tA8 tW8 txA8
  refine (eqNums_any _ _ _ _ _ _ _ _ _ _ _ tG9 tW9 (by omega) (by omega)).mono ?_; rw [dec_self]; rintro e w10 ⟨rfl, f10⟩
  have b10 := b9.trans (f10.mono (by omega))
  have z10 := f10.size
  have tA10 := tA9.keep f10 (by omega)
  have tW10 := tW9.keep f10 (by omega)
  have txA10 := txA9.keep f10 (by omega)
  have tG10 := tG9.keep f10 (by omega)
  clear tA9 tW9 txA9 tG9
  go_wp2_with fail
  refine name_call fun w11 hw11 => ?_
  have b11 : Below w.heap.size w w11 := by rw [hw11]; (repeat (with_reducible first | exact bR _ _ | assumption | refine bD ?_ | refine bN ?_ _ | refine bA ?_ _ | refine bS ?_ _))
  have z11 : w10.heap.size + 0 ≤ w11.heap.size := by rw [hw11]; simp
  have e11 : Below w10.heap.size w10 w11 := by rw [hw11]; (repeat (with_reducible first | exact bR _ _ | assumption | refine bD ?_ | refine bN ?_ _ | refine bA ?_ _ | refine bS ?_ _))
  have tA11 := tA10.keep e11 (by omega)
  have tW11 := tW10.keep e11 (by omega)
  have txA11 := txA10.keep e11 (by omega)
  have tG11 := tG10.keep e11 (by omega)
  clear hw11 tA10 tW10 txA10 tG10
  refine (toIntS_own _ _ _ _ tA11 (by omega) (by omega)).mono ?_; rintro e w12 ⟨uyA, rfl, f12, q12⟩
  have b12 := b11.trans (f12.mono (by omega))
  have z12 := f12.size
  have tA12 := tA11.keep f12 (by omega)
  have tW12 := tW11.keep f12 (by omega)
  have txA12 := txA11.keep f12 (by omega)
  have tG12 := tG11.keep f12 (by omega)
  clear tA11 tW11 txA11 tG11
  obtain ⟨ayA, kyA, rfl, layA, bayA⟩ := q12.shape
  go_wp2_with fail
  refine name_call fun w13 hw13 => ?_
  have b13 : Below w.heap.size w w13 := by rw [hw13]; (repeat (with_reducible first | exact bR _ _ | assumption | refine bD ?_ | refine bN ?_ _ | refine bA ?_ _ | refine bS ?_ _))
  have z13 : w12.heap.size + 0 ≤ w13.heap.size := by rw [hw13]; simp
  have e13 : Below w12.heap.size w12 w13 := by rw [hw13]; (repeat (with_reducible first | exact bR _ _ | assumption | refine bD ?_ | refine bN ?_ _ | refine bA ?_ _ | refine bS ?_ _))
  have tA13 := tA12.keep e13 (by omega)
  have tW13 := tW12.keep e13 (by omega)
  have txA13 := txA12.keep e13 (by omega)
  have tG13 := tG12.keep e13 (by omega)
  have tyA13 := q12.keep e13 (by omega)
  clear hw13 tA12 tW12 txA12 tG12
  refine (eqNums_any _ _ _ _ _ _ _ _ _ _ _ txA13 tyA13 (by omega) (by omega)).mono ?_; rw [dec_self]; rintro e w14 ⟨rfl, f14⟩
  have b14 := b13.trans (f14.mono (by omega))
  have z14 := f14.size
  have tA14 := tA13.keep f14 (by omega)
  have tW14 := tW13.keep f14 (by omega)
  have txA14 := txA13.keep f14 (by omega)
  have tG14 := tG13.keep f14 (by omega)
  have tyA14 := tyA13.keep f14 (by omega)
  clear tA13 tW13 txA13 tG13 tyA13
  clear tyA14
  go_wp2_with fail
  refine name_call fun w15 hw15 => ?_
  have b15 : Below w.heap.size w w15 := by rw [hw15]; (repeat (with_reducible first | exact bR _ _ | assumption | refine bD ?_ | refine bN ?_ _ | refine bA ?_ _ | refine bS ?_ _))
  have z15 : w14.heap.size + 0 ≤ w15.heap.size := by rw [hw15]; simp
  have e15 : Below w14.heap.size w14 w15 := by rw [hw15]; (repeat (with_reducible first | exact bR _ _ | assumption | refine bD ?_ | refine bN ?_ _ | refine bA ?_ _ | refine bS ?_ _))
  have tA15 := tA14.keep e15 (by omega)
  have tW15 := tW14.keep e15 (by omega)
  have txA15 := txA14.keep e15 (by omega)
  have tG15 := tG14.keep e15 (by omega)
  clear hw15 tA14 tW14 txA14 tG14
  refine (markNums_any _ _ _ _ (1) _ txA15 (by omega) (by omega) (by omega)).mono ?_; rintro e w16 ⟨rfl, f16, q16⟩
  have d16 : Below w.heap.size w15 w16 := f16.below (by omega) (by omega)
  have b16 := b15.trans d16
  have z16 := f16.size
  have tA16 := tA15.keep d16 (Nat.le_refl _)
  have tW16 := tW15.only f16 (by omega) (by omega)
  have tG16 := tG15.only f16 (by omega) (by omega)
  clear tA15 tW15 txA15 tG15
  go_wp2_with fail
  refine name_call fun w17 hw17 => ?_
  have b17 : Below w.heap.size w w17 := by rw [hw17]; (repeat (with_reducible first | exact bR _ _ | assumption | refine bD ?_ | refine bN ?_ _ | refine bA ?_ _ | refine bS ?_ _))
  have z17 : w16.heap.size + 0 ≤ w17.heap.size := by rw [hw17]; simp
  have e17 : Below w16.heap.size w16 w17 := by rw [hw17]; (repeat (with_reducible first | exact bR _ _ | assumption | refine bD ?_ | refine bN ?_ _ | refine bA ?_ _ | refine bS ?_ _))
  have tA17 := tA16.keep e17 (by omega)
  have tW17 := tW16.keep e17 (by omega)
  have txA17 := q16.keep e17 (by omega)
  have tG17 := tG16.keep e17 (by omega)
  clear hw17 tA16 tW16 tG16
  refine (eqNums_any _ _ _ _ _ _ _ _ _ _ _ tG17 tW17 (by omega) (by omega)).mono ?_; rw [dec_self]; rintro e w18 ⟨rfl, f18⟩
  have b18 := b17.trans (f18.mono (by omega))
  have z18 := f18.size
  have tA18 := tA17.keep f18 (by omega)
  have tW18 := tW17.keep f18 (by omega)
  have txA18 := txA17.keep f18 (by omega)
  have tG18 := tG17.keep f18 (by omega)
  clear tA17 tW17 txA17 tG17
  clear txA18
  go_wp2_with fail
  refine name_call fun w19 hw19 => ?_
  have b19 : Below w.heap.size w w19 := by rw [hw19]; (repeat (with_reducible first | exact bR _ _ | assumption | refine bD ?_ | refine bN ?_ _ | refine bA ?_ _ | refine bS ?_ _))
  have z19 : w18.heap.size + 0 ≤ w19.heap.size := by rw [hw19]; simp
  have e19 : Below w18.heap.size w18 w19 := by rw [hw19]; (repeat (with_reducible first | exact bR _ _ | assumption | refine bD ?_ | refine bN ?_ _ | refine bA ?_ _ | refine bS ?_ _))
  have tA19 := tA18.keep e19 (by omega)
  have tW19 := tW18.keep e19 (by omega)
  have tG19 := tG18.keep e19 (by omega)
  clear hw19 tA18 tW18 tG18
  refine (markNums_any _ _ _ _ 1 _ tG19 (by omega) (by omega) (by omega)).mono ?_; rintro e w20 ⟨rfl, f20, q20⟩
  have d20 : Below w.heap.size w19 w20 := f20.below (by omega) (by omega)
  have b20 := b19.trans d20
  have z20 := f20.size
  have tA20 := tA19.keep d20 (Nat.le_refl _)
  have tW20 := tW19.only f20 (by omega) (by omega)
  clear tA19 tW19 tG19
  go_wp2_with fail
  refine name_call fun w21 hw21 => ?_
  have b21 : Below w.heap.size w w21 := by rw [hw21]; (repeat (with_reducible first | exact bR _ _ | assumption | refine bD ?_ | refine bN ?_ _ | refine bA ?_ _ | refine bS ?_ _))
  have z21 : w20.heap.size + 0 ≤ w21.heap.size := by rw [hw21]; simp
  have e21 : Below w20.heap.size w20 w21 := by rw [hw21]; (repeat (with_reducible first | exact bR _ _ | assumption | refine bD ?_ | refine bN ?_ _ | refine bA ?_ _ | refine bS ?_ _))
  have tA21 := tA20.keep e21 (by omega)
  have tW21 := tW20.keep e21 (by omega)
  have tG21 := q20.keep e21 (by omega)
  clear hw21 tA20 tW20
  refine (heldNums_any _ _ _ _ _ 1 _ tG21 (by omega) (by omega) (by omega)).mono ?_; rintro e w22 ⟨rfl, f22⟩
  have b22 := b21.trans (f22.mono (by omega))
  have z22 := f22.size
  have tA22 := tA21.keep f22 (by omega)
  have tW22 := tW21.keep f22 (by omega)
  have tG22 := tG21.keep f22 (by omega)
  clear tA21 tW21 tG21
  go_wp2_with fail
  refine name_call fun w23 hw23 => ?_
  have b23 : Below w.heap.size w w23 := by rw [hw23]; (repeat (with_reducible first | exact bR _ _ | assumption | refine bD ?_ | refine bN ?_ _ | refine bA ?_ _ | refine bS ?_ _))
  have z23 : w22.heap.size + 0 ≤ w23.heap.size := by rw [hw23]; simp
  have e23 : Below w22.heap.size w22 w23 := by rw [hw23]; (repeat (with_reducible first | exact bR _ _ | assumption | refine bD ?_ | refine bN ?_ _ | refine bA ?_ _ | refine bS ?_ _))
  have tA23 := tA22.keep e23 (by omega)
  have tW23 := tW22.keep e23 (by omega)
  have tG23 := tG22.keep e23 (by omega)
  clear hw23 tA22 tW22 tG22
  refine (toIntS_own _ _ _ _ tA23 (by omega) (by omega)).mono ?_; rintro e w24 ⟨unA, rfl, f24, q24⟩
  have b24 := b23.trans (f24.mono (by omega))
  have z24 := f24.size
  have tA24 := tA23.keep f24 (by omega)
  have tW24 := tW23.keep f24 (by omega)
  have tG24 := tG23.keep f24 (by omega)
  clear tA23 tW23 tG23
  obtain ⟨anA, knA, rfl, lanA, banA⟩ := q24.shape
  go_wp2_with fail
  refine name_call fun w25 hw25 => ?_
  have b25 : Below w.heap.size w w25 := by rw [hw25]; (repeat (with_reducible first | exact bR _ _ | assumption | refine bD ?_ | refine bN ?_ _ | refine bA ?_ _ | refine bS ?_ _))
  have z25 : w24.heap.size + 0 ≤ w25.heap.size := by rw [hw25]; simp
  have e25 : Below w24.heap.size w24 w25 := by rw [hw25]; (repeat (with_reducible first | exact bR _ _ | assumption | refine bD ?_ | refine bN ?_ _ | refine bA ?_ _ | refine bS ?_ _))
  have tA25 := tA24.keep e25 (by omega)
  have tW25 := tW24.keep e25 (by omega)
  have tG25 := tG24.keep e25 (by omega)
  have tnA25 := q24.keep e25 (by omega)
  clear hw25 tA24 tW24 tG24
  refine (decode_impl _ _ tsA _ tnA25.ints (by omega)).mono ?_; rintro e w26 ⟨uH, rfl, f26, q26⟩
  have b26 := b25.trans (f26.mono (by omega))
  have z26 := f26.size
  have tA26 := tA25.keep f26 (by omega)
  have tW26 := tW25.keep f26 (by omega)
  have tG26 := tG25.keep f26 (by omega)
  have tnA26 := tnA25.keep f26 (by omega)
  clear tA25 tW25 tG25 tnA25
  obtain ⟨aH, kH, rfl, laH, baH⟩ := q26.shape
  clear tnA26
  go_wp2_with fail
  refine name_call fun w27 hw27 => ?_
  have b27 : Below w.heap.size w w27 := by rw [hw27]; (repeat (with_reducible first | exact bR _ _ | assumption | refine bD ?_ | refine bN ?_ _ | refine bA ?_ _ | refine bS ?_ _))
  have z27 : w26.heap.size + 0 ≤ w27.heap.size := by rw [hw27]; simp
  have e27 : Below w26.heap.size w26 w27 := by rw [hw27]; (repeat (with_reducible first | exact bR _ _ | assumption | refine bD ?_ | refine bN ?_ _ | refine bA ?_ _ | refine bS ?_ _))
  have tA27 := tA26.keep e27 (by omega)
  have tW27 := tW26.keep e27 (by omega)
  have tG27 := tG26.keep e27 (by omega)
  have tH27 := q26.keep e27 (by omega)
  clear hw27 tA26 tW26 tG26
  refine (eqNums_any _ _ _ _ _ _ _ _ _ _ _ tH27 tW27 (by omega) (by omega)).mono ?_; rw [dec_self]; rintro e w28 ⟨rfl, f28⟩
  have b28 := b27.trans (f28.mono (by omega))
  have z28 := f28.size
  have tA28 := tA27.keep f28 (by omega)
  have tW28 := tW27.keep f28 (by omega)
  have tG28 := tG27.keep f28 (by omega)
  have tH28 := tH27.keep f28 (by omega)
  clear tA27 tW27 tG27 tH27
  go_wp2_with fail
  refine name_call fun w29 hw29 => ?_
  have b29 : Below w.heap.size w w29 := by rw [hw29]; (repeat (with_reducible first | exact bR _ _ | assumption | refine bD ?_ | refine bN ?_ _ | refine bA ?_ _ | refine bS ?_ _))
  have z29 : w28.heap.size + 0 ≤ w29.heap.size := by rw [hw29]; simp
  have e29 : Below w28.heap.size w28 w29 := by rw [hw29]; (repeat (with_reducible first | exact bR _ _ | assumption | refine bD ?_ | refine bN ?_ _ | refine bA ?_ _ | refine bS ?_ _))
  have tA29 := tA28.keep e29 (by omega)
  have tW29 := tW28.keep e29 (by omega)
  have tG29 := tG28.keep e29 (by omega)
  have tH29 := tH28.keep e29 (by omega)
  clear hw29 tA28 tW28 tG28 tH28
  refine (heldNums_any _ _ _ _ _ 1 _ tG29 (by omega) (by omega) (by omega)).mono ?_; rintro e w30 ⟨rfl, f30⟩
  have b30 := b29.trans (f30.mono (by omega))
  have z30 := f30.size
  have tA30 := tA29.keep f30 (by omega)
  have tW30 := tW29.keep f30 (by omega)
  have tG30 := tG29.keep f30 (by omega)
  have tH30 := tH29.keep f30 (by omega)
  clear tA29 tW29 tG29 tH29
  go_wp2_with fail
  go_ret
  exact ⟨rfl, b30⟩

set_option maxRecDepth 100000 in
set_option maxHeartbeats 6400000 in
theorem law_FnExactEncode64 (vA : Value) (tsA : List Int) (w : World) (hA : Ints w.heap.size w vA tsA) :
    Calls Try.prog 6 #[vA] w fun e w' => e = .returned (.bool true) ∧ Below w.heap.size w w' := by
  obtain ⟨aA, kA, rfl, laA, baA⟩ := hA.shape
  by_cases hlA : tsA.length ≤ 1048576
  case' neg =>
    go_enter Try.func6, Try.ntmps6
    go_wp2_with fail
    go_ret
    exact ⟨rfl, by (repeat (with_reducible first | exact bR _ _ | assumption | refine bD ?_ | refine bN ?_ _ | refine bA ?_ _ | refine bS ?_ _))⟩
  have hF : (encL tsA).length ≤ 16 := encL_len tsA
  go_enter Try.func6, Try.ntmps6
  go_wp2_with fail
  refine name_call fun w1 hw1 => ?_
  have b1 : Below w.heap.size w w1 := by rw [hw1]; (repeat (with_reducible first | exact bR _ _ | assumption | refine bD ?_ | refine bN ?_ _ | refine bA ?_ _ | refine bS ?_ _))
  have z1 : w.heap.size + 0 ≤ w1.heap.size := by rw [hw1]; simp
  have e1 : Below w.heap.size w w1 := by rw [hw1]; (repeat (with_reducible first | exact bR _ _ | assumption | refine bD ?_ | refine bN ?_ _ | refine bA ?_ _ | refine bS ?_ _))
  have tA1 := hA.keep e1 (by omega)
  clear hw1
  refine (toIntS_own _ _ _ _ tA1 (by omega) (by omega)).mono ?_; rintro e w2 ⟨umA, rfl, f2, q2⟩
  have b2 := b1.trans (f2.mono (by omega))
  have z2 := f2.size
  have tA2 := tA1.keep f2 (by omega)
  clear tA1
  obtain ⟨amA, kmA, rfl, lamA, bamA⟩ := q2.shape
  go_wp2_with fail
  refine name_call fun w3 hw3 => ?_
  have b3 : Below w.heap.size w w3 := by rw [hw3]; (repeat (with_reducible first | exact bR _ _ | assumption | refine bD ?_ | refine bN ?_ _ | refine bA ?_ _ | refine bS ?_ _))
  have z3 : w2.heap.size + 0 ≤ w3.heap.size := by rw [hw3]; simp
  have e3 : Below w2.heap.size w2 w3 := by rw [hw3]; (repeat (with_reducible first | exact bR _ _ | assumption | refine bD ?_ | refine bN ?_ _ | refine bA ?_ _ | refine bS ?_ _))
  have tA3 := tA2.keep e3 (by omega)
  have tmA3 := q2.keep e3 (by omega)
  clear hw3 tA2
  refine (encode_spec _ _ tsA _ tmA3.ints (by omega)).mono ?_; rintro e w4 ⟨uW, rfl, f4, q4⟩
  have b4 := b3.trans (f4.mono (by omega))
  have z4 := f4.size
  have tA4 := tA3.keep f4 (by omega)
  have tmA4 := tmA3.keep f4 (by omega)
  clear tA3 tmA3
  obtain ⟨aW, kW, rfl, laW, baW⟩ := q4.shape
  clear tmA4
  go_wp2_with fail
  refine name_call fun w5 hw5 => ?_
  have b5 : Below w.heap.size w w5 := by rw [hw5]; (repeat (with_reducible first | exact bR _ _ | assumption | refine bD ?_ | refine bN ?_ _ | refine bA ?_ _ | refine bS ?_ _))
  have z5 : w4.heap.size + 0 ≤ w5.heap.size := by rw [hw5]; simp
  have e5 : Below w4.heap.size w4 w5 := by rw [hw5]; (repeat (with_reducible first | exact bR _ _ | assumption | refine bD ?_ | refine bN ?_ _ | refine bA ?_ _ | refine bS ?_ _))
  have tA5 := tA4.keep e5 (by omega)
  have tW5 := q4.keep e5 (by omega)
  clear hw5 tA4
  refine (toIntS_own _ _ _ _ tA5 (by omega) (by omega)).mono ?_; rintro e w6 ⟨uxA, rfl, f6, q6⟩
  have b6 := b5.trans (f6.mono (by omega))
  have z6 := f6.size
  have tA6 := tA5.keep f6 (by omega)
  have tW6 := tW5.keep f6 (by omega)
  clear tA5 tW5
  obtain ⟨axA, kxA, rfl, laxA, baxA⟩ := q6.shape
  go_wp2_with fail
  refine name_call fun w7 hw7 => ?_
  have b7 : Below w.heap.size w w7 := by rw [hw7]; (repeat (with_reducible first | exact bR _ _ | assumption | refine bD ?_ | refine bN ?_ _ | refine bA ?_ _ | refine bS ?_ _))
  have z7 : w6.heap.size + 0 ≤ w7.heap.size := by rw [hw7]; simp
  have e7 : Below w6.heap.size w6 w7 := by rw [hw7]; (repeat (with_reducible first | exact bR _ _ | assumption | refine bD ?_ | refine bN ?_ _ | refine bA ?_ _ | refine bS ?_ _))
  have tA7 := tA6.keep e7 (by omega)
  have tW7 := tW6.keep e7 (by omega)
  have txA7 := q6.keep e7 (by omega)
  clear hw7 tA6 tW6
  refine (encode_impl _ _ tsA _ txA7.ints (by omega)).mono ?_; rintro e w8 ⟨uG, rfl, f8, q8⟩
  have b8 := b7.trans (f8.mono (by omega))
  have z8 := f8.size
  have tA8 := tA7.keep f8 (by omega)
  have tW8 := tW7.keep f8 (by omega)
  have txA8 := txA7.keep f8 (by omega)
  clear tA7 tW7 txA7
  obtain ⟨aG, kG, rfl, laG, baG⟩ := q8.shape
  go_wp2_with fail
  refine name_call fun w9 hw9 => ?_
  have b9 : Below w.heap.size w w9 := by rw [hw9]; (repeat (with_reducible first | exact bR _ _ | assumption | refine bD ?_ | refine bN ?_ _ | refine bA ?_ _ | refine bS ?_ _))
  have z9 : w8.heap.size + 0 ≤ w9.heap.size := by rw [hw9]; simp
  have e9 : Below w8.heap.size w8 w9 := by rw [hw9]; (repeat (with_reducible first | exact bR _ _ | assumption | refine bD ?_ | refine bN ?_ _ | refine bA ?_ _ | refine bS ?_ _))
  have tA9 := tA8.keep e9 (by omega)
  have tW9 := tW8.keep e9 (by omega)
  have txA9 := txA8.keep e9 (by omega)
  have tG9 := q8.keep e9 (by omega)
  clear hw9 tA8 tW8 txA8
  refine (eqNums_any _ _ _ _ _ _ _ _ _ _ _ tG9 tW9 (by omega) (by omega)).mono ?_; rw [dec_self]; rintro e w10 ⟨rfl, f10⟩
  have b10 := b9.trans (f10.mono (by omega))
  have z10 := f10.size
  have tA10 := tA9.keep f10 (by omega)
  have tW10 := tW9.keep f10 (by omega)
  have txA10 := txA9.keep f10 (by omega)
  have tG10 := tG9.keep f10 (by omega)
  clear tA9 tW9 txA9 tG9
  go_wp2_with fail
  refine name_call fun w11 hw11 => ?_
  have b11 : Below w.heap.size w w11 := by rw [hw11]; (repeat (with_reducible first | exact bR _ _ | assumption | refine bD ?_ | refine bN ?_ _ | refine bA ?_ _ | refine bS ?_ _))
  have z11 : w10.heap.size + 0 ≤ w11.heap.size := by rw [hw11]; simp
  have e11 : Below w10.heap.size w10 w11 := by rw [hw11]; (repeat (with_reducible first | exact bR _ _ | assumption | refine bD ?_ | refine bN ?_ _ | refine bA ?_ _ | refine bS ?_ _))
  have tA11 := tA10.keep e11 (by omega)
  have tW11 := tW10.keep e11 (by omega)
  have txA11 := txA10.keep e11 (by omega)
  have tG11 := tG10.keep e11 (by omega)
  clear hw11 tA10 tW10 txA10 tG10
  refine (toIntS_own _ _ _ _ tA11 (by omega) (by omega)).mono ?_; rintro e w12 ⟨uyA, rfl, f12, q12⟩
  have b12 := b11.trans (f12.mono (by omega))
  have z12 := f12.size
  have tA12 := tA11.keep f12 (by omega)
  have tW12 := tW11.keep f12 (by omega)
  have txA12 := txA11.keep f12 (by omega)
  have tG12 := tG11.keep f12 (by omega)
  clear tA11 tW11 txA11 tG11
  obtain ⟨ayA, kyA, rfl, layA, bayA⟩ := q12.shape
  go_wp2_with fail
  refine name_call fun w13 hw13 => ?_
  have b13 : Below w.heap.size w w13 := by rw [hw13]; (repeat (with_reducible first | exact bR _ _ | assumption | refine bD ?_ | refine bN ?_ _ | refine bA ?_ _ | refine bS ?_ _))
  have z13 : w12.heap.size + 0 ≤ w13.heap.size := by rw [hw13]; simp
  have e13 : Below w12.heap.size w12 w13 := by rw [hw13]; (repeat (with_reducible first | exact bR _ _ | assumption | refine bD ?_ | refine bN ?_ _ | refine bA ?_ _ | refine bS ?_ _))
  have tA13 := tA12.keep e13 (by omega)
  have tW13 := tW12.keep e13 (by omega)
  have txA13 := txA12.keep e13 (by omega)
  have tG13 := tG12.keep e13 (by omega)
  have tyA13 := q12.keep e13 (by omega)
  clear hw13 tA12 tW12 txA12 tG12
  refine (eqNums_any _ _ _ _ _ _ _ _ _ _ _ txA13 tyA13 (by omega) (by omega)).mono ?_; rw [dec_self]; rintro e w14 ⟨rfl, f14⟩
  have b14 := b13.trans (f14.mono (by omega))
  have z14 := f14.size
  have tA14 := tA13.keep f14 (by omega)
  have tW14 := tW13.keep f14 (by omega)
  have txA14 := txA13.keep f14 (by omega)
  have tG14 := tG13.keep f14 (by omega)
  have tyA14 := tyA13.keep f14 (by omega)
  clear tA13 tW13 txA13 tG13 tyA13
  clear tyA14
  go_wp2_with fail
  refine name_call fun w15 hw15 => ?_
  have b15 : Below w.heap.size w w15 := by rw [hw15]; (repeat (with_reducible first | exact bR _ _ | assumption | refine bD ?_ | refine bN ?_ _ | refine bA ?_ _ | refine bS ?_ _))
  have z15 : w14.heap.size + 0 ≤ w15.heap.size := by rw [hw15]; simp
  have e15 : Below w14.heap.size w14 w15 := by rw [hw15]; (repeat (with_reducible first | exact bR _ _ | assumption | refine bD ?_ | refine bN ?_ _ | refine bA ?_ _ | refine bS ?_ _))
  have tA15 := tA14.keep e15 (by omega)
  have tW15 := tW14.keep e15 (by omega)
  have txA15 := txA14.keep e15 (by omega)
  have tG15 := tG14.keep e15 (by omega)
  clear hw15 tA14 tW14 txA14 tG14
  refine (markNums_any _ _ _ _ (1) _ txA15 (by omega) (by omega) (by omega)).mono ?_; rintro e w16 ⟨rfl, f16, q16⟩
  have d16 : Below w.heap.size w15 w16 := f16.below (by omega) (by omega)
  have b16 := b15.trans d16
  have z16 := f16.size
  have tA16 := tA15.keep d16 (Nat.le_refl _)
  have tW16 := tW15.only f16 (by omega) (by omega)
  have tG16 := tG15.only f16 (by omega) (by omega)
  clear tA15 tW15 txA15 tG15
  go_wp2_with fail
  refine name_call fun w17 hw17 => ?_
  have b17 : Below w.heap.size w w17 := by rw [hw17]; (repeat (with_reducible first | exact bR _ _ | assumption | refine bD ?_ | refine bN ?_ _ | refine bA ?_ _ | refine bS ?_ _))
  have z17 : w16.heap.size + 0 ≤ w17.heap.size := by rw [hw17]; simp
  have e17 : Below w16.heap.size w16 w17 := by rw [hw17]; (repeat (with_reducible first | exact bR _ _ | assumption | refine bD ?_ | refine bN ?_ _ | refine bA ?_ _ | refine bS ?_ _))
  have tA17 := tA16.keep e17 (by omega)
  have tW17 := tW16.keep e17 (by omega)
  have txA17 := q16.keep e17 (by omega)
  have tG17 := tG16.keep e17 (by omega)
  clear hw17 tA16 tW16 tG16
  refine (eqNums_any _ _ _ _ _ _ _ _ _ _ _ tG17 tW17 (by omega) (by omega)).mono ?_; rw [dec_self]; rintro e w18 ⟨rfl, f18⟩
  have b18 := b17.trans (f18.mono (by omega))
  have z18 := f18.size
  have tA18 := tA17.keep f18 (by omega)
  have tW18 := tW17.keep f18 (by omega)
  have txA18 := txA17.keep f18 (by omega)
  have tG18 := tG17.keep f18 (by omega)
  clear tA17 tW17 txA17 tG17
  clear txA18
  go_wp2_with fail
  refine name_call fun w19 hw19 => ?_
  have b19 : Below w.heap.size w w19 := by rw [hw19]; (repeat (with_reducible first | exact bR _ _ | assumption | refine bD ?_ | refine bN ?_ _ | refine bA ?_ _ | refine bS ?_ _))
  have z19 : w18.heap.size + 0 ≤ w19.heap.size := by rw [hw19]; simp
  have e19 : Below w18.heap.size w18 w19 := by rw [hw19]; (repeat (with_reducible first | exact bR _ _ | assumption | refine bD ?_ | refine bN ?_ _ | refine bA ?_ _ | refine bS ?_ _))
  have tA19 := tA18.keep e19 (by omega)
  have tW19 := tW18.keep e19 (by omega)
  have tG19 := tG18.keep e19 (by omega)
  clear hw19 tA18 tW18 tG18
  refine (markNums_any _ _ _ _ 1 _ tG19 (by omega) (by omega) (by omega)).mono ?_; rintro e w20 ⟨rfl, f20, q20⟩
  have d20 : Below w.heap.size w19 w20 := f20.below (by omega) (by omega)
  have b20 := b19.trans d20
  have z20 := f20.size
  have tA20 := tA19.keep d20 (Nat.le_refl _)
  have tW20 := tW19.only f20 (by omega) (by omega)
  clear tA19 tW19 tG19
  go_wp2_with fail
  refine name_call fun w21 hw21 => ?_
  have b21 : Below w.heap.size w w21 := by rw [hw21]; (repeat (with_reducible first | exact bR _ _ | assumption | refine bD ?_ | refine bN ?_ _ | refine bA ?_ _ | refine bS ?_ _))
  have z21 : w20.heap.size + 0 ≤ w21.heap.size := by rw [hw21]; simp
  have e21 : Below w20.heap.size w20 w21 := by rw [hw21]; (repeat (with_reducible first | exact bR _ _ | assumption | refine bD ?_ | refine bN ?_ _ | refine bA ?_ _ | refine bS ?_ _))
  have tA21 := tA20.keep e21 (by omega)
  have tW21 := tW20.keep e21 (by omega)
  have tG21 := q20.keep e21 (by omega)
  clear hw21 tA20 tW20
  refine (heldNums_any _ _ _ _ _ 1 _ tG21 (by omega) (by omega) (by omega)).mono ?_; rintro e w22 ⟨rfl, f22⟩
  have b22 := b21.trans (f22.mono (by omega))
  have z22 := f22.size
  have tA22 := tA21.keep f22 (by omega)
  have tW22 := tW21.keep f22 (by omega)
  have tG22 := tG21.keep f22 (by omega)
  clear tA21 tW21 tG21
  go_wp2_with fail
  refine name_call fun w23 hw23 => ?_
  have b23 : Below w.heap.size w w23 := by rw [hw23]; (repeat (with_reducible first | exact bR _ _ | assumption | refine bD ?_ | refine bN ?_ _ | refine bA ?_ _ | refine bS ?_ _))
  have z23 : w22.heap.size + 0 ≤ w23.heap.size := by rw [hw23]; simp
  have e23 : Below w22.heap.size w22 w23 := by rw [hw23]; (repeat (with_reducible first | exact bR _ _ | assumption | refine bD ?_ | refine bN ?_ _ | refine bA ?_ _ | refine bS ?_ _))
  have tA23 := tA22.keep e23 (by omega)
  have tW23 := tW22.keep e23 (by omega)
  have tG23 := tG22.keep e23 (by omega)
  clear hw23 tA22 tW22 tG22
  refine (toIntS_own _ _ _ _ tA23 (by omega) (by omega)).mono ?_; rintro e w24 ⟨unA, rfl, f24, q24⟩
  have b24 := b23.trans (f24.mono (by omega))
  have z24 := f24.size
  have tA24 := tA23.keep f24 (by omega)
  have tW24 := tW23.keep f24 (by omega)
  have tG24 := tG23.keep f24 (by omega)
  clear tA23 tW23 tG23
  obtain ⟨anA, knA, rfl, lanA, banA⟩ := q24.shape
  go_wp2_with fail
  refine name_call fun w25 hw25 => ?_
  have b25 : Below w.heap.size w w25 := by rw [hw25]; (repeat (with_reducible first | exact bR _ _ | assumption | refine bD ?_ | refine bN ?_ _ | refine bA ?_ _ | refine bS ?_ _))
  have z25 : w24.heap.size + 0 ≤ w25.heap.size := by rw [hw25]; simp
  have e25 : Below w24.heap.size w24 w25 := by rw [hw25]; (repeat (with_reducible first | exact bR _ _ | assumption | refine bD ?_ | refine bN ?_ _ | refine bA ?_ _ | refine bS ?_ _))
  have tA25 := tA24.keep e25 (by omega)
  have tW25 := tW24.keep e25 (by omega)
  have tG25 := tG24.keep e25 (by omega)
  have tnA25 := q24.keep e25 (by omega)
  clear hw25 tA24 tW24 tG24
  refine (encode_impl _ _ tsA _ tnA25.ints (by omega)).mono ?_; rintro e w26 ⟨uH, rfl, f26, q26⟩
  have b26 := b25.trans (f26.mono (by omega))
  have z26 := f26.size
  have tA26 := tA25.keep f26 (by omega)
  have tW26 := tW25.keep f26 (by omega)
  have tG26 := tG25.keep f26 (by omega)
  have tnA26 := tnA25.keep f26 (by omega)
  clear tA25 tW25 tG25 tnA25
  obtain ⟨aH, kH, rfl, laH, baH⟩ := q26.shape
  clear tnA26
  go_wp2_with fail
  refine name_call fun w27 hw27 => ?_
  have b27 : Below w.heap.size w w27 := by rw [hw27]; (repeat (with_reducible first | exact bR _ _ | assumption | refine bD ?_ | refine bN ?_ _ | refine bA ?_ _ | refine bS ?_ _))
  have z27 : w26.heap.size + 0 ≤ w27.heap.size := by rw [hw27]; simp
  have e27 : Below w26.heap.size w26 w27 := by rw [hw27]; (repeat (with_reducible first | exact bR _ _ | assumption | refine bD ?_ | refine bN ?_ _ | refine bA ?_ _ | refine bS ?_ _))
  have tA27 := tA26.keep e27 (by omega)
  have tW27 := tW26.keep e27 (by omega)
  have tG27 := tG26.keep e27 (by omega)
  have tH27 := q26.keep e27 (by omega)
  clear hw27 tA26 tW26 tG26
  refine (eqNums_any _ _ _ _ _ _ _ _ _ _ _ tH27 tW27 (by omega) (by omega)).mono ?_; rw [dec_self]; rintro e w28 ⟨rfl, f28⟩
  have b28 := b27.trans (f28.mono (by omega))
  have z28 := f28.size
  have tA28 := tA27.keep f28 (by omega)
  have tW28 := tW27.keep f28 (by omega)
  have tG28 := tG27.keep f28 (by omega)
  have tH28 := tH27.keep f28 (by omega)
  clear tA27 tW27 tG27 tH27
  go_wp2_with fail
  refine name_call fun w29 hw29 => ?_
  have b29 : Below w.heap.size w w29 := by rw [hw29]; (repeat (with_reducible first | exact bR _ _ | assumption | refine bD ?_ | refine bN ?_ _ | refine bA ?_ _ | refine bS ?_ _))
  have z29 : w28.heap.size + 0 ≤ w29.heap.size := by rw [hw29]; simp
  have e29 : Below w28.heap.size w28 w29 := by rw [hw29]; (repeat (with_reducible first | exact bR _ _ | assumption | refine bD ?_ | refine bN ?_ _ | refine bA ?_ _ | refine bS ?_ _))
  have tA29 := tA28.keep e29 (by omega)
  have tW29 := tW28.keep e29 (by omega)
  have tG29 := tG28.keep e29 (by omega)
  have tH29 := tH28.keep e29 (by omega)
  clear hw29 tA28 tW28 tG28 tH28
  refine (heldNums_any _ _ _ _ _ 1 _ tG29 (by omega) (by omega) (by omega)).mono ?_; rintro e w30 ⟨rfl, f30⟩
  have b30 := b29.trans (f30.mono (by omega))
  have z30 := f30.size
  have tA30 := tA29.keep f30 (by omega)
  have tW30 := tW29.keep f30 (by omega)
  have tG30 := tG29.keep f30 (by omega)
  have tH30 := tH29.keep f30 (by omega)
  clear tA29 tW29 tG29 tH29
  go_wp2_with fail
  go_ret
  exact ⟨rfl, b30⟩
end Go.Proofs.Ytplphfgacomhkaa.L
