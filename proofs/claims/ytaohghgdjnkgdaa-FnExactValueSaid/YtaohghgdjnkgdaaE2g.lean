/- Exact laws of layer 2 (written by tools/genexact.py): the program's function and its model return the same, write into no argument, and own what they return. -/
import Derived.Test.YtaohghgdjnkgdaaVal2
namespace Go.Proofs.Ytaohghgdjnkgdaa.L
open Go.RowKit Go.Proofs.Ytaohghgdjnkgdaa.S
set_option linter.unusedVariables false
set_option linter.unusedSimpArgs false

set_option maxRecDepth 100000 in
set_option maxHeartbeats 6400000 in
theorem law_FnExactValue (vA : Value) (tsA : List T) (vX : Value) (tsX : List Int) (w : World) (hA : Terms false 0 w.heap.size w vA tsA) (hX : Ints w.heap.size w vX tsX) :
    Calls Try.prog 13 #[.agg #[vA], vX] w fun e w' => e = .returned (.bool true) ∧ Below w.heap.size w w' := by
  obtain ⟨aA, kA, rfl, laA, baA⟩ := hA.shape
  obtain ⟨aX, kX, rfl, laX, baX⟩ := hX.shape
  by_cases hlX : tsX.length ≤ 1048576
  case' neg =>
    go_enter Try.func13, Try.ntmps13
    go_wp2_with fail
    go_ret
    exact ⟨rfl, by (repeat (first | with_reducible exact Below.refl _ _ | with_reducible assumption | with_reducible refine Below.drew ?_ | with_reducible refine bdrewN ?_ _ | ((with_reducible refine balloc ?_ ?_ _); (focus (first | with_reducible exact Nat.le_refl _ | (simp; done) | omega | (simp; omega) | exact Nat.le_refl _))) | ((with_reducible refine bset ?_ ?_ _); (focus (first | with_reducible exact Nat.le_refl _ | (simp; done) | omega | (simp; omega) | exact Nat.le_refl _)))))⟩
  by_cases hlA : tsA.length ≤ 1048576
  case' neg =>
    have SA := szLin_any false 0 w.heap.size (.slice aA tsA.length kA) tsA (((1048576 : Nat)) : Int)
    rw [if_pos (by omega)] at SA
    have SZA := Lib.hid SA; clear SA
    go_enter Try.func13, Try.ntmps13
    go_wp2_with fail
    refine name_call fun w1 hw1 => ?_
    have b1 : Below w.heap.size w w1 := by rw [hw1]; (repeat (first | with_reducible exact Below.refl _ _ | with_reducible assumption | with_reducible refine Below.drew ?_ | with_reducible refine bdrewN ?_ _ | ((with_reducible refine balloc ?_ ?_ _); (focus (first | with_reducible exact Nat.le_refl _ | (simp; done) | omega | (simp; omega) | exact Nat.le_refl _))) | ((with_reducible refine bset ?_ ?_ _); (focus (first | with_reducible exact Nat.le_refl _ | (simp; done) | omega | (simp; omega) | exact Nat.le_refl _)))))
    have z1 : w.heap.size + 1 ≤ w1.heap.size := by rw [hw1]; simp
    have cBA1 : w1.cell? ⟨w.heap.size, 0, none⟩ = some (.slice aA tsA.length kA) := by rw [hw1]; simp
    have tA1 := hA.keep b1 (Nat.le_refl _)
    have tX1 := hX.keep b1 (Nat.le_refl _)
    clear hw1
    refine (SZA.out _ tA1 (by omega) (by omega) (by omega)).mono ?_; rintro e w2 ⟨rfl, f2⟩
    have b2 := b1.trans (f2.mono (by omega))
    have z2 := f2.size
    have cBA2 := cell_keep f2 cBA1
    have tA2 := tA1.keep f2 (by omega)
    have tX2 := tX1.keep f2 (by omega)
    clear cBA1 tA1 tX1
    go_wp2_with fail
    go_ret
    exact ⟨rfl, by (repeat (first | with_reducible exact Below.refl _ _ | with_reducible assumption | with_reducible refine Below.drew ?_ | with_reducible refine bdrewN ?_ _ | ((with_reducible refine balloc ?_ ?_ _); (focus (first | with_reducible exact Nat.le_refl _ | (simp; done) | omega | (simp; omega) | exact Nat.le_refl _))) | ((with_reducible refine bset ?_ ?_ _); (focus (first | with_reducible exact Nat.le_refl _ | (simp; done) | omega | (simp; omega) | exact Nat.le_refl _)))))⟩
  have SA := szLin_any false 0 w.heap.size (.slice aA tsA.length kA) tsA (((1048576 : Nat)) : Int)
  rw [if_neg (by omega)] at SA
  rw [show (((1048576 : Nat)) : Int) - tsA.length = (((1048576 - tsA.length : Nat)) : Int) from by omega] at SA
  have SZA := Lib.hid SA; clear SA
  go_enter Try.func13, Try.ntmps13
  go_wp2_with fail
  refine name_call fun w1 hw1 => ?_
  have b1 : Below w.heap.size w w1 := by rw [hw1]; (repeat (first | with_reducible exact Below.refl _ _ | with_reducible assumption | with_reducible refine Below.drew ?_ | with_reducible refine bdrewN ?_ _ | ((with_reducible refine balloc ?_ ?_ _); (focus (first | with_reducible exact Nat.le_refl _ | (simp; done) | omega | (simp; omega) | exact Nat.le_refl _))) | ((with_reducible refine bset ?_ ?_ _); (focus (first | with_reducible exact Nat.le_refl _ | (simp; done) | omega | (simp; omega) | exact Nat.le_refl _)))))
  have z1 : w.heap.size + 1 ≤ w1.heap.size := by rw [hw1]; simp
  have cBA1 : w1.cell? ⟨w.heap.size, 0, none⟩ = some (.slice aA tsA.length kA) := by rw [hw1]; simp
  have tA1 := hA.keep b1 (Nat.le_refl _)
  have tX1 := hX.keep b1 (Nat.le_refl _)
  clear hw1
  refine (SZA.out _ tA1 (by omega) (by omega) (by omega)).mono ?_; rintro e w2 ⟨rfl, f2⟩
  have b2 := b1.trans (f2.mono (by omega))
  have z2 := f2.size
  have cBA2 := cell_keep f2 cBA1
  have tA2 := tA1.keep f2 (by omega)
  have tX2 := tX1.keep f2 (by omega)
  clear cBA1 tA1 tX1
  go_wp2_with fail
  refine name_call fun w3 hw3 => ?_
  have b3 : Below w.heap.size w w3 := by rw [hw3]; (repeat (first | with_reducible exact Below.refl _ _ | with_reducible assumption | with_reducible refine Below.drew ?_ | with_reducible refine bdrewN ?_ _ | ((with_reducible refine balloc ?_ ?_ _); (focus (first | with_reducible exact Nat.le_refl _ | (simp; done) | omega | (simp; omega) | exact Nat.le_refl _))) | ((with_reducible refine bset ?_ ?_ _); (focus (first | with_reducible exact Nat.le_refl _ | (simp; done) | omega | (simp; omega) | exact Nat.le_refl _)))))
  have z3 : w2.heap.size + 0 ≤ w3.heap.size := by rw [hw3]; simp
  have cBA3 : w3.cell? ⟨w.heap.size, 0, none⟩ = some (.slice aA tsA.length kA) := by rw [hw3]; first | exact cBA2 | exact cBA2
  have tA3 := tA2.keep (show Below w2.heap.size w2 w3 by rw [hw3]; (repeat (first | with_reducible exact Below.refl _ _ | with_reducible assumption | with_reducible refine Below.drew ?_ | with_reducible refine bdrewN ?_ _ | ((with_reducible refine balloc ?_ ?_ _); (focus (first | with_reducible exact Nat.le_refl _ | (simp; done) | omega | (simp; omega) | exact Nat.le_refl _))) | ((with_reducible refine bset ?_ ?_ _); (focus (first | with_reducible exact Nat.le_refl _ | (simp; done) | omega | (simp; omega) | exact Nat.le_refl _)))))) (by omega)
  have tX3 := tX2.keep (show Below w2.heap.size w2 w3 by rw [hw3]; (repeat (first | with_reducible exact Below.refl _ _ | with_reducible assumption | with_reducible refine Below.drew ?_ | with_reducible refine bdrewN ?_ _ | ((with_reducible refine balloc ?_ ?_ _); (focus (first | with_reducible exact Nat.le_refl _ | (simp; done) | omega | (simp; omega) | exact Nat.le_refl _))) | ((with_reducible refine bset ?_ ?_ _); (focus (first | with_reducible exact Nat.le_refl _ | (simp; done) | omega | (simp; omega) | exact Nat.le_refl _)))))) (by omega)
  clear hw3
  clear cBA2 tA2 tX2
  refine (toLin_any _ _ _ _ _ _ tA3 (by omega) (by omega)).mono ?_; rintro e w4 ⟨u4, rfl, f4, tq4⟩
  have b4 := b3.trans (f4.mono (by omega))
  have z4 := f4.size
  have cBA4 := cell_keep f4 cBA3
  have tA4 := tA3.keep f4 (by omega)
  have tX4 := tX3.keep f4 (by omega)
  clear cBA3 tA3 tX3
  have tmA4 := tq4; clear tq4
  obtain ⟨amA, kmA, rfl, lamA, bamA⟩ := tmA4.shape
  go_wp2_with fail
  refine name_call fun w5 hw5 => ?_
  have b5 : Below w.heap.size w w5 := by rw [hw5]; (repeat (first | with_reducible exact Below.refl _ _ | with_reducible assumption | with_reducible refine Below.drew ?_ | with_reducible refine bdrewN ?_ _ | ((with_reducible refine balloc ?_ ?_ _); (focus (first | with_reducible exact Nat.le_refl _ | (simp; done) | omega | (simp; omega) | exact Nat.le_refl _))) | ((with_reducible refine bset ?_ ?_ _); (focus (first | with_reducible exact Nat.le_refl _ | (simp; done) | omega | (simp; omega) | exact Nat.le_refl _)))))
  have z5 : w4.heap.size + 0 ≤ w5.heap.size := by rw [hw5]; simp
  have cBA5 : w5.cell? ⟨w.heap.size, 0, none⟩ = some (.slice aA tsA.length kA) := by rw [hw5]; first | exact cBA4 | exact cBA4
  have tA5 := tA4.keep (show Below w4.heap.size w4 w5 by rw [hw5]; (repeat (first | with_reducible exact Below.refl _ _ | with_reducible assumption | with_reducible refine Below.drew ?_ | with_reducible refine bdrewN ?_ _ | ((with_reducible refine balloc ?_ ?_ _); (focus (first | with_reducible exact Nat.le_refl _ | (simp; done) | omega | (simp; omega) | exact Nat.le_refl _))) | ((with_reducible refine bset ?_ ?_ _); (focus (first | with_reducible exact Nat.le_refl _ | (simp; done) | omega | (simp; omega) | exact Nat.le_refl _)))))) (by omega)
  have tX5 := tX4.keep (show Below w4.heap.size w4 w5 by rw [hw5]; (repeat (first | with_reducible exact Below.refl _ _ | with_reducible assumption | with_reducible refine Below.drew ?_ | with_reducible refine bdrewN ?_ _ | ((with_reducible refine balloc ?_ ?_ _); (focus (first | with_reducible exact Nat.le_refl _ | (simp; done) | omega | (simp; omega) | exact Nat.le_refl _))) | ((with_reducible refine bset ?_ ?_ _); (focus (first | with_reducible exact Nat.le_refl _ | (simp; done) | omega | (simp; omega) | exact Nat.le_refl _)))))) (by omega)
  have tmA5 := tmA4.keep (show Below w4.heap.size w4 w5 by rw [hw5]; (repeat (first | with_reducible exact Below.refl _ _ | with_reducible assumption | with_reducible refine Below.drew ?_ | with_reducible refine bdrewN ?_ _ | ((with_reducible refine balloc ?_ ?_ _); (focus (first | with_reducible exact Nat.le_refl _ | (simp; done) | omega | (simp; omega) | exact Nat.le_refl _))) | ((with_reducible refine bset ?_ ?_ _); (focus (first | with_reducible exact Nat.le_refl _ | (simp; done) | omega | (simp; omega) | exact Nat.le_refl _)))))) (by omega)
  clear hw5
  clear cBA4 tA4 tX4 tmA4
  refine (toIntS_any _ _ _ _ tX5 (by omega) (by omega)).mono ?_; rintro e w6 ⟨u6, rfl, f6, tq6⟩
  have b6 := b5.trans (f6.mono (by omega))
  have z6 := f6.size
  have cBA6 := cell_keep f6 cBA5
  have tA6 := tA5.keep f6 (by omega)
  have tX6 := tX5.keep f6 (by omega)
  have tmA6 := tmA5.keep f6 (by omega)
  clear cBA5 tA5 tX5 tmA5
  have tmX6 := tq6; clear tq6
  obtain ⟨amX, kmX, rfl, lamX, bamX⟩ := tmX6.shape
  go_wp2_with fail
  refine name_call fun w7 hw7 => ?_
  have b7 : Below w.heap.size w w7 := by rw [hw7]; (repeat (first | with_reducible exact Below.refl _ _ | with_reducible assumption | with_reducible refine Below.drew ?_ | with_reducible refine bdrewN ?_ _ | ((with_reducible refine balloc ?_ ?_ _); (focus (first | with_reducible exact Nat.le_refl _ | (simp; done) | omega | (simp; omega) | exact Nat.le_refl _))) | ((with_reducible refine bset ?_ ?_ _); (focus (first | with_reducible exact Nat.le_refl _ | (simp; done) | omega | (simp; omega) | exact Nat.le_refl _)))))
  have z7 : w6.heap.size + 0 ≤ w7.heap.size := by rw [hw7]; simp
  have cBA7 : w7.cell? ⟨w.heap.size, 0, none⟩ = some (.slice aA tsA.length kA) := by rw [hw7]; first | exact cBA6 | exact cBA6
  have tA7 := tA6.keep (show Below w6.heap.size w6 w7 by rw [hw7]; (repeat (first | with_reducible exact Below.refl _ _ | with_reducible assumption | with_reducible refine Below.drew ?_ | with_reducible refine bdrewN ?_ _ | ((with_reducible refine balloc ?_ ?_ _); (focus (first | with_reducible exact Nat.le_refl _ | (simp; done) | omega | (simp; omega) | exact Nat.le_refl _))) | ((with_reducible refine bset ?_ ?_ _); (focus (first | with_reducible exact Nat.le_refl _ | (simp; done) | omega | (simp; omega) | exact Nat.le_refl _)))))) (by omega)
  have tX7 := tX6.keep (show Below w6.heap.size w6 w7 by rw [hw7]; (repeat (first | with_reducible exact Below.refl _ _ | with_reducible assumption | with_reducible refine Below.drew ?_ | with_reducible refine bdrewN ?_ _ | ((with_reducible refine balloc ?_ ?_ _); (focus (first | with_reducible exact Nat.le_refl _ | (simp; done) | omega | (simp; omega) | exact Nat.le_refl _))) | ((with_reducible refine bset ?_ ?_ _); (focus (first | with_reducible exact Nat.le_refl _ | (simp; done) | omega | (simp; omega) | exact Nat.le_refl _)))))) (by omega)
  have tmA7 := tmA6.keep (show Below w6.heap.size w6 w7 by rw [hw7]; (repeat (first | with_reducible exact Below.refl _ _ | with_reducible assumption | with_reducible refine Below.drew ?_ | with_reducible refine bdrewN ?_ _ | ((with_reducible refine balloc ?_ ?_ _); (focus (first | with_reducible exact Nat.le_refl _ | (simp; done) | omega | (simp; omega) | exact Nat.le_refl _))) | ((with_reducible refine bset ?_ ?_ _); (focus (first | with_reducible exact Nat.le_refl _ | (simp; done) | omega | (simp; omega) | exact Nat.le_refl _)))))) (by omega)
  have tmX7 := tmX6.keep (show Below w6.heap.size w6 w7 by rw [hw7]; (repeat (first | with_reducible exact Below.refl _ _ | with_reducible assumption | with_reducible refine Below.drew ?_ | with_reducible refine bdrewN ?_ _ | ((with_reducible refine balloc ?_ ?_ _); (focus (first | with_reducible exact Nat.le_refl _ | (simp; done) | omega | (simp; omega) | exact Nat.le_refl _))) | ((with_reducible refine bset ?_ ?_ _); (focus (first | with_reducible exact Nat.le_refl _ | (simp; done) | omega | (simp; omega) | exact Nat.le_refl _)))))) (by omega)
  clear hw7
  clear cBA6 tA6 tX6 tmA6 tmX6
  refine (value_spec _ _ _ _ _ _ _ _ _ tmA7 (by omega) tmX7 (by omega) ).mono ?_; rintro e w8 ⟨rfl, f8⟩
  have b8 := b7.trans (f8.mono (by omega))
  have z8 := f8.size
  have cBA8 := cell_keep f8 cBA7
  have tA8 := tA7.keep f8 (by omega)
  have tX8 := tX7.keep f8 (by omega)
  have tmA8 := tmA7.keep f8 (by omega)
  have tmX8 := tmX7.keep f8 (by omega)
  clear cBA7 tA7 tX7 tmA7 tmX7
  clear tmA8
  clear tmX8
  go_wp2_with fail
  refine name_call fun w9 hw9 => ?_
  have b9 : Below w.heap.size w w9 := by rw [hw9]; (repeat (first | with_reducible exact Below.refl _ _ | with_reducible assumption | with_reducible refine Below.drew ?_ | with_reducible refine bdrewN ?_ _ | ((with_reducible refine balloc ?_ ?_ _); (focus (first | with_reducible exact Nat.le_refl _ | (simp; done) | omega | (simp; omega) | exact Nat.le_refl _))) | ((with_reducible refine bset ?_ ?_ _); (focus (first | with_reducible exact Nat.le_refl _ | (simp; done) | omega | (simp; omega) | exact Nat.le_refl _)))))
  have z9 : w8.heap.size + 0 ≤ w9.heap.size := by rw [hw9]; simp
  have cBA9 : w9.cell? ⟨w.heap.size, 0, none⟩ = some (.slice aA tsA.length kA) := by rw [hw9]; first | exact cBA8 | exact cBA8
  have tA9 := tA8.keep (show Below w8.heap.size w8 w9 by rw [hw9]; (repeat (first | with_reducible exact Below.refl _ _ | with_reducible assumption | with_reducible refine Below.drew ?_ | with_reducible refine bdrewN ?_ _ | ((with_reducible refine balloc ?_ ?_ _); (focus (first | with_reducible exact Nat.le_refl _ | (simp; done) | omega | (simp; omega) | exact Nat.le_refl _))) | ((with_reducible refine bset ?_ ?_ _); (focus (first | with_reducible exact Nat.le_refl _ | (simp; done) | omega | (simp; omega) | exact Nat.le_refl _)))))) (by omega)
  have tX9 := tX8.keep (show Below w8.heap.size w8 w9 by rw [hw9]; (repeat (first | with_reducible exact Below.refl _ _ | with_reducible assumption | with_reducible refine Below.drew ?_ | with_reducible refine bdrewN ?_ _ | ((with_reducible refine balloc ?_ ?_ _); (focus (first | with_reducible exact Nat.le_refl _ | (simp; done) | omega | (simp; omega) | exact Nat.le_refl _))) | ((with_reducible refine bset ?_ ?_ _); (focus (first | with_reducible exact Nat.le_refl _ | (simp; done) | omega | (simp; omega) | exact Nat.le_refl _)))))) (by omega)
  clear hw9
  clear cBA8 tA8 tX8
  refine (toLin_any _ _ _ _ _ _ tA9 (by omega) (by omega)).mono ?_; rintro e w10 ⟨u10, rfl, f10, tq10⟩
  have b10 := b9.trans (f10.mono (by omega))
  have z10 := f10.size
  have cBA10 := cell_keep f10 cBA9
  have tA10 := tA9.keep f10 (by omega)
  have tX10 := tX9.keep f10 (by omega)
  clear cBA9 tA9 tX9
  have txA10 := tq10; clear tq10
  obtain ⟨axA, kxA, rfl, laxA, baxA⟩ := txA10.shape
  have lBA10 : w.heap.size < w10.heap.size := by omega
  go_wp2_with fail
  refine name_call fun w11 hw11 => ?_
  clear lBA10
  have b11 : Below w.heap.size w w11 := by rw [hw11]; (repeat (first | with_reducible exact Below.refl _ _ | with_reducible assumption | with_reducible refine Below.drew ?_ | with_reducible refine bdrewN ?_ _ | ((with_reducible refine balloc ?_ ?_ _); (focus (first | with_reducible exact Nat.le_refl _ | (simp; done) | omega | (simp; omega) | exact Nat.le_refl _))) | ((with_reducible refine bset ?_ ?_ _); (focus (first | with_reducible exact Nat.le_refl _ | (simp; done) | omega | (simp; omega) | exact Nat.le_refl _)))))
  have z11 : w10.heap.size + 1 ≤ w11.heap.size := by rw [hw11]; simp
  have cBA11 : w11.cell? ⟨w.heap.size, 0, none⟩ = some (.slice aA tsA.length kA) := by rw [hw11]; first | exact cBA10 | exact alloc_keep (cBA10)
  have cXA11 : w11.cell? ⟨w10.heap.size, 0, none⟩ = some (.slice axA (tsA).length kxA) := by rw [hw11]; simp
  have tA11 := tA10.keep (show Below w10.heap.size w10 w11 by rw [hw11]; (repeat (first | with_reducible exact Below.refl _ _ | with_reducible assumption | with_reducible refine Below.drew ?_ | with_reducible refine bdrewN ?_ _ | ((with_reducible refine balloc ?_ ?_ _); (focus (first | with_reducible exact Nat.le_refl _ | (simp; done) | omega | (simp; omega) | exact Nat.le_refl _))) | ((with_reducible refine bset ?_ ?_ _); (focus (first | with_reducible exact Nat.le_refl _ | (simp; done) | omega | (simp; omega) | exact Nat.le_refl _)))))) (by omega)
  have tX11 := tX10.keep (show Below w10.heap.size w10 w11 by rw [hw11]; (repeat (first | with_reducible exact Below.refl _ _ | with_reducible assumption | with_reducible refine Below.drew ?_ | with_reducible refine bdrewN ?_ _ | ((with_reducible refine balloc ?_ ?_ _); (focus (first | with_reducible exact Nat.le_refl _ | (simp; done) | omega | (simp; omega) | exact Nat.le_refl _))) | ((with_reducible refine bset ?_ ?_ _); (focus (first | with_reducible exact Nat.le_refl _ | (simp; done) | omega | (simp; omega) | exact Nat.le_refl _)))))) (by omega)
  have txA11 := txA10.keep (show Below w10.heap.size w10 w11 by rw [hw11]; (repeat (first | with_reducible exact Below.refl _ _ | with_reducible assumption | with_reducible refine Below.drew ?_ | with_reducible refine bdrewN ?_ _ | ((with_reducible refine balloc ?_ ?_ _); (focus (first | with_reducible exact Nat.le_refl _ | (simp; done) | omega | (simp; omega) | exact Nat.le_refl _))) | ((with_reducible refine bset ?_ ?_ _); (focus (first | with_reducible exact Nat.le_refl _ | (simp; done) | omega | (simp; omega) | exact Nat.le_refl _)))))) (by omega)
  clear hw11
  clear cBA10 tA10 tX10 txA10
  refine (toIntS_any _ _ _ _ tX11 (by omega) (by omega)).mono ?_; rintro e w12 ⟨u12, rfl, f12, tq12⟩
  have b12 := b11.trans (f12.mono (by omega))
  have z12 := f12.size
  have cBA12 := cell_keep f12 cBA11
  have cXA12 := cell_keep f12 cXA11
  have tA12 := tA11.keep f12 (by omega)
  have tX12 := tX11.keep f12 (by omega)
  have txA12 := txA11.keep f12 (by omega)
  clear cBA11 cXA11 tA11 tX11 txA11
  have txX12 := tq12; clear tq12
  obtain ⟨axX, kxX, rfl, laxX, baxX⟩ := txX12.shape
  go_wp2_with fail
  refine name_call fun w13 hw13 => ?_
  have b13 : Below w.heap.size w w13 := by rw [hw13]; (repeat (first | with_reducible exact Below.refl _ _ | with_reducible assumption | with_reducible refine Below.drew ?_ | with_reducible refine bdrewN ?_ _ | ((with_reducible refine balloc ?_ ?_ _); (focus (first | with_reducible exact Nat.le_refl _ | (simp; done) | omega | (simp; omega) | exact Nat.le_refl _))) | ((with_reducible refine bset ?_ ?_ _); (focus (first | with_reducible exact Nat.le_refl _ | (simp; done) | omega | (simp; omega) | exact Nat.le_refl _)))))
  have z13 : w12.heap.size + 0 ≤ w13.heap.size := by rw [hw13]; simp
  have cBA13 : w13.cell? ⟨w.heap.size, 0, none⟩ = some (.slice aA tsA.length kA) := by rw [hw13]; first | exact cBA12 | exact cBA12
  have cXA13 : w13.cell? ⟨w10.heap.size, 0, none⟩ = some (.slice axA (tsA).length kxA) := by rw [hw13]; first | exact cXA12 | exact cXA12
  have tA13 := tA12.keep (show Below w12.heap.size w12 w13 by rw [hw13]; (repeat (first | with_reducible exact Below.refl _ _ | with_reducible assumption | with_reducible refine Below.drew ?_ | with_reducible refine bdrewN ?_ _ | ((with_reducible refine balloc ?_ ?_ _); (focus (first | with_reducible exact Nat.le_refl _ | (simp; done) | omega | (simp; omega) | exact Nat.le_refl _))) | ((with_reducible refine bset ?_ ?_ _); (focus (first | with_reducible exact Nat.le_refl _ | (simp; done) | omega | (simp; omega) | exact Nat.le_refl _)))))) (by omega)
  have tX13 := tX12.keep (show Below w12.heap.size w12 w13 by rw [hw13]; (repeat (first | with_reducible exact Below.refl _ _ | with_reducible assumption | with_reducible refine Below.drew ?_ | with_reducible refine bdrewN ?_ _ | ((with_reducible refine balloc ?_ ?_ _); (focus (first | with_reducible exact Nat.le_refl _ | (simp; done) | omega | (simp; omega) | exact Nat.le_refl _))) | ((with_reducible refine bset ?_ ?_ _); (focus (first | with_reducible exact Nat.le_refl _ | (simp; done) | omega | (simp; omega) | exact Nat.le_refl _)))))) (by omega)
  have txA13 := txA12.keep (show Below w12.heap.size w12 w13 by rw [hw13]; (repeat (first | with_reducible exact Below.refl _ _ | with_reducible assumption | with_reducible refine Below.drew ?_ | with_reducible refine bdrewN ?_ _ | ((with_reducible refine balloc ?_ ?_ _); (focus (first | with_reducible exact Nat.le_refl _ | (simp; done) | omega | (simp; omega) | exact Nat.le_refl _))) | ((with_reducible refine bset ?_ ?_ _); (focus (first | with_reducible exact Nat.le_refl _ | (simp; done) | omega | (simp; omega) | exact Nat.le_refl _)))))) (by omega)
  have txX13 := txX12.keep (show Below w12.heap.size w12 w13 by rw [hw13]; (repeat (first | with_reducible exact Below.refl _ _ | with_reducible assumption | with_reducible refine Below.drew ?_ | with_reducible refine bdrewN ?_ _ | ((with_reducible refine balloc ?_ ?_ _); (focus (first | with_reducible exact Nat.le_refl _ | (simp; done) | omega | (simp; omega) | exact Nat.le_refl _))) | ((with_reducible refine bset ?_ ?_ _); (focus (first | with_reducible exact Nat.le_refl _ | (simp; done) | omega | (simp; omega) | exact Nat.le_refl _)))))) (by omega)
  clear hw13
  clear cBA12 cXA12 tA12 tX12 txA12 txX12
  refine (value_impl _ _ _ _ _ _ _ _ _ txA13 (by omega) txX13 (by omega) ).mono ?_; rintro e w14 ⟨rfl, f14⟩
  have b14 := b13.trans (f14.mono (by omega))
  have z14 := f14.size
  have cBA14 := cell_keep f14 cBA13
  have cXA14 := cell_keep f14 cXA13
  have tA14 := tA13.keep f14 (by omega)
  have tX14 := tX13.keep f14 (by omega)
  have txA14 := txA13.keep f14 (by omega)
  have txX14 := txX13.keep f14 (by omega)
  clear cBA13 cXA13 tA13 tX13 txA13 txX13
  go_wp2_with fail
  refine name_wp fun w15 hw15 => ?_
  have b15 : Below w.heap.size w w15 := by rw [hw15]; (repeat (first | with_reducible exact Below.refl _ _ | with_reducible assumption | with_reducible refine Below.drew ?_ | with_reducible refine bdrewN ?_ _ | ((with_reducible refine balloc ?_ ?_ _); (focus (first | with_reducible exact Nat.le_refl _ | (simp; done) | omega | (simp; omega) | exact Nat.le_refl _))) | ((with_reducible refine bset ?_ ?_ _); (focus (first | with_reducible exact Nat.le_refl _ | (simp; done) | omega | (simp; omega) | exact Nat.le_refl _)))))
  have z15 : w14.heap.size + 0 ≤ w15.heap.size := by rw [hw15]; simp
  have cBA15 : w15.cell? ⟨w.heap.size, 0, none⟩ = some (.slice aA tsA.length kA) := by rw [hw15]; first | exact cBA14 | exact cBA14
  have cXA15 : w15.cell? ⟨w10.heap.size, 0, none⟩ = some (.slice axA (tsA).length kxA) := by rw [hw15]; first | exact cXA14 | exact cXA14
  have tA15 := tA14.keep (show Below w14.heap.size w14 w15 by rw [hw15]; (repeat (first | with_reducible exact Below.refl _ _ | with_reducible assumption | with_reducible refine Below.drew ?_ | with_reducible refine bdrewN ?_ _ | ((with_reducible refine balloc ?_ ?_ _); (focus (first | with_reducible exact Nat.le_refl _ | (simp; done) | omega | (simp; omega) | exact Nat.le_refl _))) | ((with_reducible refine bset ?_ ?_ _); (focus (first | with_reducible exact Nat.le_refl _ | (simp; done) | omega | (simp; omega) | exact Nat.le_refl _)))))) (by omega)
  have tX15 := tX14.keep (show Below w14.heap.size w14 w15 by rw [hw15]; (repeat (first | with_reducible exact Below.refl _ _ | with_reducible assumption | with_reducible refine Below.drew ?_ | with_reducible refine bdrewN ?_ _ | ((with_reducible refine balloc ?_ ?_ _); (focus (first | with_reducible exact Nat.le_refl _ | (simp; done) | omega | (simp; omega) | exact Nat.le_refl _))) | ((with_reducible refine bset ?_ ?_ _); (focus (first | with_reducible exact Nat.le_refl _ | (simp; done) | omega | (simp; omega) | exact Nat.le_refl _)))))) (by omega)
  have txA15 := txA14.keep (show Below w14.heap.size w14 w15 by rw [hw15]; (repeat (first | with_reducible exact Below.refl _ _ | with_reducible assumption | with_reducible refine Below.drew ?_ | with_reducible refine bdrewN ?_ _ | ((with_reducible refine balloc ?_ ?_ _); (focus (first | with_reducible exact Nat.le_refl _ | (simp; done) | omega | (simp; omega) | exact Nat.le_refl _))) | ((with_reducible refine bset ?_ ?_ _); (focus (first | with_reducible exact Nat.le_refl _ | (simp; done) | omega | (simp; omega) | exact Nat.le_refl _)))))) (by omega)
  have txX15 := txX14.keep (show Below w14.heap.size w14 w15 by rw [hw15]; (repeat (first | with_reducible exact Below.refl _ _ | with_reducible assumption | with_reducible refine Below.drew ?_ | with_reducible refine bdrewN ?_ _ | ((with_reducible refine balloc ?_ ?_ _); (focus (first | with_reducible exact Nat.le_refl _ | (simp; done) | omega | (simp; omega) | exact Nat.le_refl _))) | ((with_reducible refine bset ?_ ?_ _); (focus (first | with_reducible exact Nat.le_refl _ | (simp; done) | omega | (simp; omega) | exact Nat.le_refl _)))))) (by omega)
  clear hw15
  clear cBA14 cXA14 tA14 tX14 txA14 txX14
  have b16 : Below w.heap.size w w15.drew := b15.drew
  have z16 : w15.heap.size ≤ w15.drew.heap.size := Nat.le_refl _
  have cBA16 : w15.drew.cell? ⟨w.heap.size, 0, none⟩ = some (.slice aA tsA.length kA) := cBA15
  have cXA16 : w15.drew.cell? ⟨w10.heap.size, 0, none⟩ = some (.slice axA (tsA).length kxA) := cXA15
  have tA16 : Terms false (0) (w.heap.size) w15.drew (.slice aA tsA.length kA) (tsA) := tA15
  have tX16 : Ints (w.heap.size) w15.drew (.slice aX tsX.length kX) (tsX) := tX15
  have txA16 : Terms true (w9.heap.size) (w10.heap.size) w15.drew (.slice axA (tsA).length kxA) (tsA) := txA15
  have txX16 : Ints (w12.heap.size) w15.drew (.slice axX (tsX).length kxX) (tsX) := txX15
  clear cBA15 cXA15 tA15 tX15 txA15 txX15
  go_region_held3 (fun w' => w'.cell? ⟨w10.heap.size, 0, none⟩ = some (.slice axA (tsA).length kxA) ∧ w'.cell? ⟨w.heap.size, 0, none⟩ = some (.slice aA tsA.length kA)) (first | exact ⟨cXA16, cBA16⟩ | exact ⟨cXA17, cBA17⟩ | exact ⟨cXA18, cBA18⟩ | exact ⟨alloc_keep cXA18, alloc_keep cBA18⟩)
    (first
      | (go_at_call_of 52 (Value.agg #[Value.slice aA tsA.length kA]); refine (toLin_any _ _ _ _ _ _ tA16 (by omega) (by omega)).mono ?_; rintro e w17 ⟨u17, rfl, f17, tq17⟩; have b17 := b16.trans (f17.mono (by omega)); have z17 := f17.size; have cBA17 := cell_keep f17 cBA16; have cXA17 := cell_keep f17 cXA16; have tA17 := tA16.keep f17 (by omega); have tX17 := tX16.keep f17 (by omega); have txA17 := txA16.keep f17 (by omega); have txX17 := txX16.keep f17 (by omega); clear cBA16 cXA16 tA16 tX16 txA16 txX16; have tyA17 := tq17; clear tq17; obtain ⟨ayA, kyA, rfl, layA, bayA⟩ := tyA17.shape)
      | (go_at_call 54; refine (eqLin_any _ _ _ _ _ _ _ _ _ _ _ txA17 tyA17 (by omega) (by omega)).mono ?_; rw [dec_self]; rintro e w18 ⟨rfl, f18⟩; have b18 := b17.trans (f18.mono (by omega)); have z18 := f18.size; have cBA18 := cell_keep f18 cBA17; have cXA18 := cell_keep f18 cXA17; have tA18 := tA17.keep f18 (by omega); have tX18 := tX17.keep f18 (by omega); have txA18 := txA17.keep f18 (by omega); have txX18 := txX17.keep f18 (by omega); have tyA18 := tyA17.keep f18 (by omega); clear cBA17 cXA17 tA17 tX17 txA17 txX17 tyA17))
  clear tyA18
  go_wp2_with fail
  refine name_call fun w19 hw19 => ?_
  have b19 : Below w.heap.size w w19 := by rw [hw19]; (repeat (first | with_reducible exact Below.refl _ _ | with_reducible assumption | with_reducible refine Below.drew ?_ | with_reducible refine bdrewN ?_ _ | ((with_reducible refine balloc ?_ ?_ _); (focus (first | with_reducible exact Nat.le_refl _ | (simp; done) | omega | (simp; omega) | exact Nat.le_refl _))) | ((with_reducible refine bset ?_ ?_ _); (focus (first | with_reducible exact Nat.le_refl _ | (simp; done) | omega | (simp; omega) | exact Nat.le_refl _)))))
  have z19 : w18.heap.size + 0 ≤ w19.heap.size := by rw [hw19]; simp
  have cBA19 : w19.cell? ⟨w.heap.size, 0, none⟩ = some (.slice aA tsA.length kA) := by rw [hw19]; first | exact cBA18 | exact cBA18
  have cXA19 : w19.cell? ⟨w10.heap.size, 0, none⟩ = some (.slice axA (tsA).length kxA) := by rw [hw19]; first | exact cXA18 | exact cXA18
  have tA19 := tA18.keep (show Below w18.heap.size w18 w19 by rw [hw19]; (repeat (first | with_reducible exact Below.refl _ _ | with_reducible assumption | with_reducible refine Below.drew ?_ | with_reducible refine bdrewN ?_ _ | ((with_reducible refine balloc ?_ ?_ _); (focus (first | with_reducible exact Nat.le_refl _ | (simp; done) | omega | (simp; omega) | exact Nat.le_refl _))) | ((with_reducible refine bset ?_ ?_ _); (focus (first | with_reducible exact Nat.le_refl _ | (simp; done) | omega | (simp; omega) | exact Nat.le_refl _)))))) (by omega)
  have tX19 := tX18.keep (show Below w18.heap.size w18 w19 by rw [hw19]; (repeat (first | with_reducible exact Below.refl _ _ | with_reducible assumption | with_reducible refine Below.drew ?_ | with_reducible refine bdrewN ?_ _ | ((with_reducible refine balloc ?_ ?_ _); (focus (first | with_reducible exact Nat.le_refl _ | (simp; done) | omega | (simp; omega) | exact Nat.le_refl _))) | ((with_reducible refine bset ?_ ?_ _); (focus (first | with_reducible exact Nat.le_refl _ | (simp; done) | omega | (simp; omega) | exact Nat.le_refl _)))))) (by omega)
  have txA19 := txA18.keep (show Below w18.heap.size w18 w19 by rw [hw19]; (repeat (first | with_reducible exact Below.refl _ _ | with_reducible assumption | with_reducible refine Below.drew ?_ | with_reducible refine bdrewN ?_ _ | ((with_reducible refine balloc ?_ ?_ _); (focus (first | with_reducible exact Nat.le_refl _ | (simp; done) | omega | (simp; omega) | exact Nat.le_refl _))) | ((with_reducible refine bset ?_ ?_ _); (focus (first | with_reducible exact Nat.le_refl _ | (simp; done) | omega | (simp; omega) | exact Nat.le_refl _)))))) (by omega)
  have txX19 := txX18.keep (show Below w18.heap.size w18 w19 by rw [hw19]; (repeat (first | with_reducible exact Below.refl _ _ | with_reducible assumption | with_reducible refine Below.drew ?_ | with_reducible refine bdrewN ?_ _ | ((with_reducible refine balloc ?_ ?_ _); (focus (first | with_reducible exact Nat.le_refl _ | (simp; done) | omega | (simp; omega) | exact Nat.le_refl _))) | ((with_reducible refine bset ?_ ?_ _); (focus (first | with_reducible exact Nat.le_refl _ | (simp; done) | omega | (simp; omega) | exact Nat.le_refl _)))))) (by omega)
  clear hw19
  clear cBA18 cXA18 tA18 tX18 txA18 txX18
  refine (toIntS_any _ _ _ _ tX19 (by omega) (by omega)).mono ?_; rintro e w20 ⟨u20, rfl, f20, tq20⟩
  have b20 := b19.trans (f20.mono (by omega))
  have z20 := f20.size
  have cBA20 := cell_keep f20 cBA19
  have cXA20 := cell_keep f20 cXA19
  have tA20 := tA19.keep f20 (by omega)
  have tX20 := tX19.keep f20 (by omega)
  have txA20 := txA19.keep f20 (by omega)
  have txX20 := txX19.keep f20 (by omega)
  clear cBA19 cXA19 tA19 tX19 txA19 txX19
  have tyX20 := tq20; clear tq20
  obtain ⟨ayX, kyX, rfl, layX, bayX⟩ := tyX20.shape
  go_wp2_with fail
  refine name_call fun w21 hw21 => ?_
  have b21 : Below w.heap.size w w21 := by rw [hw21]; (repeat (first | with_reducible exact Below.refl _ _ | with_reducible assumption | with_reducible refine Below.drew ?_ | with_reducible refine bdrewN ?_ _ | ((with_reducible refine balloc ?_ ?_ _); (focus (first | with_reducible exact Nat.le_refl _ | (simp; done) | omega | (simp; omega) | exact Nat.le_refl _))) | ((with_reducible refine bset ?_ ?_ _); (focus (first | with_reducible exact Nat.le_refl _ | (simp; done) | omega | (simp; omega) | exact Nat.le_refl _)))))
  have z21 : w20.heap.size + 0 ≤ w21.heap.size := by rw [hw21]; simp
  have cBA21 : w21.cell? ⟨w.heap.size, 0, none⟩ = some (.slice aA tsA.length kA) := by rw [hw21]; first | exact cBA20 | exact cBA20
  have cXA21 : w21.cell? ⟨w10.heap.size, 0, none⟩ = some (.slice axA (tsA).length kxA) := by rw [hw21]; first | exact cXA20 | exact cXA20
  have tA21 := tA20.keep (show Below w20.heap.size w20 w21 by rw [hw21]; (repeat (first | with_reducible exact Below.refl _ _ | with_reducible assumption | with_reducible refine Below.drew ?_ | with_reducible refine bdrewN ?_ _ | ((with_reducible refine balloc ?_ ?_ _); (focus (first | with_reducible exact Nat.le_refl _ | (simp; done) | omega | (simp; omega) | exact Nat.le_refl _))) | ((with_reducible refine bset ?_ ?_ _); (focus (first | with_reducible exact Nat.le_refl _ | (simp; done) | omega | (simp; omega) | exact Nat.le_refl _)))))) (by omega)
  have tX21 := tX20.keep (show Below w20.heap.size w20 w21 by rw [hw21]; (repeat (first | with_reducible exact Below.refl _ _ | with_reducible assumption | with_reducible refine Below.drew ?_ | with_reducible refine bdrewN ?_ _ | ((with_reducible refine balloc ?_ ?_ _); (focus (first | with_reducible exact Nat.le_refl _ | (simp; done) | omega | (simp; omega) | exact Nat.le_refl _))) | ((with_reducible refine bset ?_ ?_ _); (focus (first | with_reducible exact Nat.le_refl _ | (simp; done) | omega | (simp; omega) | exact Nat.le_refl _)))))) (by omega)
  have txA21 := txA20.keep (show Below w20.heap.size w20 w21 by rw [hw21]; (repeat (first | with_reducible exact Below.refl _ _ | with_reducible assumption | with_reducible refine Below.drew ?_ | with_reducible refine bdrewN ?_ _ | ((with_reducible refine balloc ?_ ?_ _); (focus (first | with_reducible exact Nat.le_refl _ | (simp; done) | omega | (simp; omega) | exact Nat.le_refl _))) | ((with_reducible refine bset ?_ ?_ _); (focus (first | with_reducible exact Nat.le_refl _ | (simp; done) | omega | (simp; omega) | exact Nat.le_refl _)))))) (by omega)
  have txX21 := txX20.keep (show Below w20.heap.size w20 w21 by rw [hw21]; (repeat (first | with_reducible exact Below.refl _ _ | with_reducible assumption | with_reducible refine Below.drew ?_ | with_reducible refine bdrewN ?_ _ | ((with_reducible refine balloc ?_ ?_ _); (focus (first | with_reducible exact Nat.le_refl _ | (simp; done) | omega | (simp; omega) | exact Nat.le_refl _))) | ((with_reducible refine bset ?_ ?_ _); (focus (first | with_reducible exact Nat.le_refl _ | (simp; done) | omega | (simp; omega) | exact Nat.le_refl _)))))) (by omega)
  have tyX21 := tyX20.keep (show Below w20.heap.size w20 w21 by rw [hw21]; (repeat (first | with_reducible exact Below.refl _ _ | with_reducible assumption | with_reducible refine Below.drew ?_ | with_reducible refine bdrewN ?_ _ | ((with_reducible refine balloc ?_ ?_ _); (focus (first | with_reducible exact Nat.le_refl _ | (simp; done) | omega | (simp; omega) | exact Nat.le_refl _))) | ((with_reducible refine bset ?_ ?_ _); (focus (first | with_reducible exact Nat.le_refl _ | (simp; done) | omega | (simp; omega) | exact Nat.le_refl _)))))) (by omega)
  clear hw21
  clear cBA20 cXA20 tA20 tX20 txA20 txX20 tyX20
  refine (eqInts_any _ _ _ _ _ _ _ txX21 tyX21 (by omega) (by omega)).mono ?_; rw [dec_self]; rintro e w22 ⟨rfl, f22⟩
  have b22 := b21.trans (f22.mono (by omega))
  have z22 := f22.size
  have cBA22 := cell_keep f22 cBA21
  have cXA22 := cell_keep f22 cXA21
  have tA22 := tA21.keep f22 (by omega)
  have tX22 := tX21.keep f22 (by omega)
  have txA22 := txA21.keep f22 (by omega)
  have txX22 := txX21.keep f22 (by omega)
  have tyX22 := tyX21.keep f22 (by omega)
  clear cBA21 cXA21 tA21 tX21 txA21 txX21 tyX21
  clear tyX22
  go_wp2_with fail
  go_ret
  exact ⟨rfl, b22⟩
end Go.Proofs.Ytaohghgdjnkgdaa.L
