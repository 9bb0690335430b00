/- Exact laws of layer 3 (written by tools/lawsys.py): the program's function and its model return the same, write into no argument, and own what they return. -/
import Derived.Test.YtaohghgdjnkgdaaHolds
import Derived.Test.YtaohghgdjnkgdaaCopyT
import Derived.Test.YtaohghgdjnkgdaaEqS
import Derived.Test.YtaohghgdjnkgdaaSz
namespace Go.Proofs.Ytaohghgdjnkgdaa.L
open Go.RowKit Go.Proofs.Ytaohghgdjnkgdaa.S
set_option linter.unusedVariables false
set_option linter.unusedSimpArgs false

set_option maxRecDepth 100000 in
set_option maxHeartbeats 6400000 in
theorem law_FnExactHolds (vaA vbA vcA : Value) (cA : ConC) (vX : Value) (tsX : List Int) (w : World) (haA : Terms false 0 w.heap.size w vaA cA.a) (hbA : Terms false 0 w.heap.size w vbA cA.b) (hcA : Terms false 0 w.heap.size w vcA cA.c) (hX : Ints w.heap.size w vX tsX) :
    Calls Try.prog 5 #[.agg #[vaA, vbA, vcA], vX] w fun e w' => e = .returned (.bool true) ∧ Below w.heap.size w w' := by
  obtain ⟨aaA, kaA, rfl, laA, baA⟩ := haA.shape
  obtain ⟨abA, kbA, rfl, lbA, bbA⟩ := hbA.shape
  obtain ⟨acA, kcA, rfl, lcA, bcA⟩ := hcA.shape
  obtain ⟨aX, kX, rfl, laX, baX⟩ := hX.shape
  by_cases hlX : tsX.length ≤ 1048576
  case' neg =>
    go_enter Try.func5, Try.ntmps5
    go_wp2_with fail
    go_ret
    exact ⟨rfl, by (repeat (first | with_reducible exact Below.refl _ _ | with_reducible assumption | with_reducible refine Below.drew ?_ | with_reducible refine bdrewN ?_ _ | ((with_reducible refine balloc ?_ ?_ _); (focus (first | with_reducible exact Nat.le_refl _ | (simp; done) | omega | (simp; omega) | exact Nat.le_refl _))) | ((with_reducible refine bset ?_ ?_ _); (focus (first | with_reducible exact Nat.le_refl _ | (simp; done) | omega | (simp; omega) | exact Nat.le_refl _)))))⟩
  by_cases hlA : szC cA ≤ 1048576
  case' neg =>
    go_enter Try.func5, Try.ntmps5
    go_wp2_with fail
    refine name_call fun w1 hw1 => ?_
    have b1 : Below w.heap.size w w1 := by rw [hw1]; (repeat (first | with_reducible exact Below.refl _ _ | with_reducible assumption | with_reducible refine Below.drew ?_ | with_reducible refine bdrewN ?_ _ | ((with_reducible refine balloc ?_ ?_ _); (focus (first | with_reducible exact Nat.le_refl _ | (simp; done) | omega | (simp; omega) | exact Nat.le_refl _))) | ((with_reducible refine bset ?_ ?_ _); (focus (first | with_reducible exact Nat.le_refl _ | (simp; done) | omega | (simp; omega) | exact Nat.le_refl _)))))
    have z1 : w.heap.size + 1 ≤ w1.heap.size := by rw [hw1]; simp
    have e1 : Below w.heap.size w w1 := by rw [hw1]; (repeat (first | with_reducible exact Below.refl _ _ | with_reducible assumption | with_reducible refine Below.drew ?_ | with_reducible refine bdrewN ?_ _ | ((with_reducible refine balloc ?_ ?_ _); (focus (first | with_reducible exact Nat.le_refl _ | (simp; done) | omega | (simp; omega) | exact Nat.le_refl _))) | ((with_reducible refine bset ?_ ?_ _); (focus (first | with_reducible exact Nat.le_refl _ | (simp; done) | omega | (simp; omega) | exact Nat.le_refl _)))))
    have cA01 : w1.cell? ⟨w.heap.size, 0, none⟩ = some (.slice aaA cA.a.length kaA) := by rw [hw1]; first | (simp; done) | go_simp
    have cA11 : w1.cell? ⟨w.heap.size, 1, none⟩ = some (.slice abA cA.b.length kbA) := by rw [hw1]; first | (simp; done) | go_simp
    have cA21 : w1.cell? ⟨w.heap.size, 2, none⟩ = some (.slice acA cA.c.length kcA) := by rw [hw1]; first | (simp; done) | go_simp
    have tAa1 := haA.keep e1 (by omega)
    have tAb1 := hbA.keep e1 (by omega)
    have tAc1 := hcA.keep e1 (by omega)
    have tX1 := hX.keep e1 (by omega)
    clear hw1
    refine (szCon_no false 0 w.heap.size _ _ _ cA 1048576 _ tAa1 tAb1 tAc1 (by omega) (by omega) (by omega) (by omega)).mono ?_; rintro e w2 ⟨rfl, f2⟩
    have b2 := b1.trans (f2.mono (by omega))
    have z2 := f2.size
    have cA02 := cell_keep f2 cA01
    have cA12 := cell_keep f2 cA11
    have cA22 := cell_keep f2 cA21
    have tAa2 := tAa1.keep f2 (by omega)
    have tAb2 := tAb1.keep f2 (by omega)
    have tAc2 := tAc1.keep f2 (by omega)
    have tX2 := tX1.keep f2 (by omega)
    clear cA01 cA11 cA21 tAa1 tAb1 tAc1 tX1
    go_wp2_with fail
    go_ret
    exact ⟨rfl, b2⟩
  have nA : cA.a.length + cA.b.length + cA.c.length ≤ 1048576 := hlA
  have q0 : 0 ≤ (1048576 : Int) - (szC cA : Nat) := by omega
  go_enter Try.func5, Try.ntmps5
  go_wp2_with fail
  refine name_call fun w1 hw1 => ?_
  have b1 : Below w.heap.size w w1 := by rw [hw1]; (repeat (first | with_reducible exact Below.refl _ _ | with_reducible assumption | with_reducible refine Below.drew ?_ | with_reducible refine bdrewN ?_ _ | ((with_reducible refine balloc ?_ ?_ _); (focus (first | with_reducible exact Nat.le_refl _ | (simp; done) | omega | (simp; omega) | exact Nat.le_refl _))) | ((with_reducible refine bset ?_ ?_ _); (focus (first | with_reducible exact Nat.le_refl _ | (simp; done) | omega | (simp; omega) | exact Nat.le_refl _)))))
  have z1 : w.heap.size + 1 ≤ w1.heap.size := by rw [hw1]; simp
  have e1 : Below w.heap.size w w1 := by rw [hw1]; (repeat (first | with_reducible exact Below.refl _ _ | with_reducible assumption | with_reducible refine Below.drew ?_ | with_reducible refine bdrewN ?_ _ | ((with_reducible refine balloc ?_ ?_ _); (focus (first | with_reducible exact Nat.le_refl _ | (simp; done) | omega | (simp; omega) | exact Nat.le_refl _))) | ((with_reducible refine bset ?_ ?_ _); (focus (first | with_reducible exact Nat.le_refl _ | (simp; done) | omega | (simp; omega) | exact Nat.le_refl _)))))
  have cA01 : w1.cell? ⟨w.heap.size, 0, none⟩ = some (.slice aaA cA.a.length kaA) := by rw [hw1]; first | (simp; done) | go_simp
  have cA11 : w1.cell? ⟨w.heap.size, 1, none⟩ = some (.slice abA cA.b.length kbA) := by rw [hw1]; first | (simp; done) | go_simp
  have cA21 : w1.cell? ⟨w.heap.size, 2, none⟩ = some (.slice acA cA.c.length kcA) := by rw [hw1]; first | (simp; done) | go_simp
  have tAa1 := haA.keep e1 (by omega)
  have tAb1 := hbA.keep e1 (by omega)
  have tAc1 := hcA.keep e1 (by omega)
  have tX1 := hX.keep e1 (by omega)
  clear hw1
  refine (szCon_ok false 0 w.heap.size _ _ _ cA 1048576 _ tAa1 tAb1 tAc1 (by omega)  (by omega) (by omega)).mono ?_; rintro e w2 ⟨rfl, f2⟩
  have b2 := b1.trans (f2.mono (by omega))
  have z2 := f2.size
  have cA02 := cell_keep f2 cA01
  have cA12 := cell_keep f2 cA11
  have cA22 := cell_keep f2 cA21
  have tAa2 := tAa1.keep f2 (by omega)
  have tAb2 := tAb1.keep f2 (by omega)
  have tAc2 := tAc1.keep f2 (by omega)
  have tX2 := tX1.keep f2 (by omega)
  clear cA01 cA11 cA21 tAa1 tAb1 tAc1 tX1
  have lcA02 : w.heap.size < w2.heap.size := World.block_lt_of_cell? _ _ cA02
  go_wp2_with fail
  refine name_call fun w3 hw3 => ?_
  have b3 : Below w.heap.size w w3 := by rw [hw3]; (repeat (first | with_reducible exact Below.refl _ _ | with_reducible assumption | with_reducible refine Below.drew ?_ | with_reducible refine bdrewN ?_ _ | ((with_reducible refine balloc ?_ ?_ _); (focus (first | with_reducible exact Nat.le_refl _ | (simp; done) | omega | (simp; omega) | exact Nat.le_refl _))) | ((with_reducible refine bset ?_ ?_ _); (focus (first | with_reducible exact Nat.le_refl _ | (simp; done) | omega | (simp; omega) | exact Nat.le_refl _)))))
  have z3 : w2.heap.size + 0 ≤ w3.heap.size := by rw [hw3]; simp
  have e3 : Below w2.heap.size w2 w3 := by rw [hw3]; (repeat (first | with_reducible exact Below.refl _ _ | with_reducible assumption | with_reducible refine Below.drew ?_ | with_reducible refine bdrewN ?_ _ | ((with_reducible refine balloc ?_ ?_ _); (focus (first | with_reducible exact Nat.le_refl _ | (simp; done) | omega | (simp; omega) | exact Nat.le_refl _))) | ((with_reducible refine bset ?_ ?_ _); (focus (first | with_reducible exact Nat.le_refl _ | (simp; done) | omega | (simp; omega) | exact Nat.le_refl _)))))
  have cA03 := cell_keep e3 cA02
  have cA13 := cell_keep e3 cA12
  have cA23 := cell_keep e3 cA22
  have tAa3 := tAa2.keep e3 (by omega)
  have tAb3 := tAb2.keep e3 (by omega)
  have tAc3 := tAc2.keep e3 (by omega)
  have tX3 := tX2.keep e3 (by omega)
  clear hw3 lcA02 cA02 cA12 cA22 tAa2 tAb2 tAc2 tX2
  refine (toCon_any false 0 w.heap.size _ _ _ cA _ tAa3 tAb3 tAc3 (by omega) (by omega) (by omega) (by omega)).mono ?_; rintro e w4 ⟨uamA, ubmA, ucmA, M1mA, M2mA, rfl, f4, g0mA, g1mA, g2mA, qaw4, qbw4, qcw4⟩
  have b4 := b3.trans (f4.mono (by omega))
  have z4 := f4.size
  have cA04 := cell_keep f4 cA03
  have cA14 := cell_keep f4 cA13
  have cA24 := cell_keep f4 cA23
  have tAa4 := tAa3.keep f4 (by omega)
  have tAb4 := tAb3.keep f4 (by omega)
  have tAc4 := tAc3.keep f4 (by omega)
  have tX4 := tX3.keep f4 (by omega)
  clear cA03 cA13 cA23 tAa3 tAb3 tAc3 tX3
  obtain ⟨aamA, kamA, rfl, lamA, bamA⟩ := qaw4.shape
  obtain ⟨abmA, kbmA, rfl, lbmA, bbmA⟩ := qbw4.shape
  obtain ⟨acmA, kcmA, rfl, lcmA, bcmA⟩ := qcw4.shape
  have lcA04 : w.heap.size < w4.heap.size := World.block_lt_of_cell? _ _ cA04
  go_wp2_with fail
  refine name_call fun w5 hw5 => ?_
  have b5 : Below w.heap.size w w5 := by rw [hw5]; (repeat (first | with_reducible exact Below.refl _ _ | with_reducible assumption | with_reducible refine Below.drew ?_ | with_reducible refine bdrewN ?_ _ | ((with_reducible refine balloc ?_ ?_ _); (focus (first | with_reducible exact Nat.le_refl _ | (simp; done) | omega | (simp; omega) | exact Nat.le_refl _))) | ((with_reducible refine bset ?_ ?_ _); (focus (first | with_reducible exact Nat.le_refl _ | (simp; done) | omega | (simp; omega) | exact Nat.le_refl _)))))
  have z5 : w4.heap.size + 0 ≤ w5.heap.size := by rw [hw5]; simp
  have e5 : Below w4.heap.size w4 w5 := by rw [hw5]; (repeat (first | with_reducible exact Below.refl _ _ | with_reducible assumption | with_reducible refine Below.drew ?_ | with_reducible refine bdrewN ?_ _ | ((with_reducible refine balloc ?_ ?_ _); (focus (first | with_reducible exact Nat.le_refl _ | (simp; done) | omega | (simp; omega) | exact Nat.le_refl _))) | ((with_reducible refine bset ?_ ?_ _); (focus (first | with_reducible exact Nat.le_refl _ | (simp; done) | omega | (simp; omega) | exact Nat.le_refl _)))))
  have cA05 := cell_keep e5 cA04
  have cA15 := cell_keep e5 cA14
  have cA25 := cell_keep e5 cA24
  have tAa5 := tAa4.keep e5 (by omega)
  have tAb5 := tAb4.keep e5 (by omega)
  have tAc5 := tAc4.keep e5 (by omega)
  have tX5 := tX4.keep e5 (by omega)
  have tmAa5 := qaw4.keep e5 (by omega)
  have tmAb5 := qbw4.keep e5 (by omega)
  have tmAc5 := qcw4.keep e5 (by omega)
  clear hw5 lcA04 cA04 cA14 cA24 tAa4 tAb4 tAc4 tX4
  refine (toIntS_any _ _ _ _ tX5 (by omega) (by omega)).mono ?_; rintro e w6 ⟨umX, rfl, f6, q6⟩
  have b6 := b5.trans (f6.mono (by omega))
  have z6 := f6.size
  have cA06 := cell_keep f6 cA05
  have cA16 := cell_keep f6 cA15
  have cA26 := cell_keep f6 cA25
  have tAa6 := tAa5.keep f6 (by omega)
  have tAb6 := tAb5.keep f6 (by omega)
  have tAc6 := tAc5.keep f6 (by omega)
  have tX6 := tX5.keep f6 (by omega)
  have tmAa6 := tmAa5.keep f6 (by omega)
  have tmAb6 := tmAb5.keep f6 (by omega)
  have tmAc6 := tmAc5.keep f6 (by omega)
  clear cA05 cA15 cA25 tAa5 tAb5 tAc5 tX5 tmAa5 tmAb5 tmAc5
  obtain ⟨amX, kmX, rfl, lamX, bamX⟩ := q6.shape
  have lcA06 : w.heap.size < w6.heap.size := World.block_lt_of_cell? _ _ cA06
  go_wp2_with fail
  refine name_call fun w7 hw7 => ?_
  have b7 : Below w.heap.size w w7 := by rw [hw7]; (repeat (first | with_reducible exact Below.refl _ _ | with_reducible assumption | with_reducible refine Below.drew ?_ | with_reducible refine bdrewN ?_ _ | ((with_reducible refine balloc ?_ ?_ _); (focus (first | with_reducible exact Nat.le_refl _ | (simp; done) | omega | (simp; omega) | exact Nat.le_refl _))) | ((with_reducible refine bset ?_ ?_ _); (focus (first | with_reducible exact Nat.le_refl _ | (simp; done) | omega | (simp; omega) | exact Nat.le_refl _)))))
  have z7 : w6.heap.size + 0 ≤ w7.heap.size := by rw [hw7]; simp
  have e7 : Below w6.heap.size w6 w7 := by rw [hw7]; (repeat (first | with_reducible exact Below.refl _ _ | with_reducible assumption | with_reducible refine Below.drew ?_ | with_reducible refine bdrewN ?_ _ | ((with_reducible refine balloc ?_ ?_ _); (focus (first | with_reducible exact Nat.le_refl _ | (simp; done) | omega | (simp; omega) | exact Nat.le_refl _))) | ((with_reducible refine bset ?_ ?_ _); (focus (first | with_reducible exact Nat.le_refl _ | (simp; done) | omega | (simp; omega) | exact Nat.le_refl _)))))
  have cA07 := cell_keep e7 cA06
  have cA17 := cell_keep e7 cA16
  have cA27 := cell_keep e7 cA26
  have tAa7 := tAa6.keep e7 (by omega)
  have tAb7 := tAb6.keep e7 (by omega)
  have tAc7 := tAc6.keep e7 (by omega)
  have tX7 := tX6.keep e7 (by omega)
  have tmAa7 := tmAa6.keep e7 (by omega)
  have tmAb7 := tmAb6.keep e7 (by omega)
  have tmAc7 := tmAc6.keep e7 (by omega)
  have tmX7 := q6.keep e7 (by omega)
  clear hw7 lcA06 cA06 cA16 cA26 tAa6 tAb6 tAc6 tX6 tmAa6 tmAb6 tmAc6
  refine (hold_spec true 0 w7.heap.size _ _ _ cA _ _ tsX _ (tmAa7.mono (l' := 0) (h' := w7.heap.size) (by omega) (by omega)) (tmAb7.mono (l' := 0) (h' := w7.heap.size) (by omega) (by omega)) (tmAc7.mono (l' := 0) (h' := w7.heap.size) (by omega) (by omega)) (Nat.le_refl _) tmX7 (by omega) hlX).mono ?_; rintro e w8 ⟨rfl, f8⟩
  have b8 := b7.trans (f8.mono (by omega))
  have z8 := f8.size
  have cA08 := cell_keep f8 cA07
  have cA18 := cell_keep f8 cA17
  have cA28 := cell_keep f8 cA27
  have tAa8 := tAa7.keep f8 (by omega)
  have tAb8 := tAb7.keep f8 (by omega)
  have tAc8 := tAc7.keep f8 (by omega)
  have tX8 := tX7.keep f8 (by omega)
  have tmAa8 := tmAa7.keep f8 (by omega)
  have tmAb8 := tmAb7.keep f8 (by omega)
  have tmAc8 := tmAc7.keep f8 (by omega)
  have tmX8 := tmX7.keep f8 (by omega)
  clear cA07 cA17 cA27 tAa7 tAb7 tAc7 tX7 tmAa7 tmAb7 tmAc7 tmX7
  clear tmAa8
  clear tmAb8
  clear tmAc8
  clear tmX8
  have lcA08 : w.heap.size < w8.heap.size := World.block_lt_of_cell? _ _ cA08
  go_wp2_with fail
  refine name_call fun w9 hw9 => ?_
  have b9 : Below w.heap.size w w9 := by rw [hw9]; (repeat (first | with_reducible exact Below.refl _ _ | with_reducible assumption | with_reducible refine Below.drew ?_ | with_reducible refine bdrewN ?_ _ | ((with_reducible refine balloc ?_ ?_ _); (focus (first | with_reducible exact Nat.le_refl _ | (simp; done) | omega | (simp; omega) | exact Nat.le_refl _))) | ((with_reducible refine bset ?_ ?_ _); (focus (first | with_reducible exact Nat.le_refl _ | (simp; done) | omega | (simp; omega) | exact Nat.le_refl _)))))
  have z9 : w8.heap.size + 0 ≤ w9.heap.size := by rw [hw9]; simp
  have e9 : Below w8.heap.size w8 w9 := by rw [hw9]; (repeat (first | with_reducible exact Below.refl _ _ | with_reducible assumption | with_reducible refine Below.drew ?_ | with_reducible refine bdrewN ?_ _ | ((with_reducible refine balloc ?_ ?_ _); (focus (first | with_reducible exact Nat.le_refl _ | (simp; done) | omega | (simp; omega) | exact Nat.le_refl _))) | ((with_reducible refine bset ?_ ?_ _); (focus (first | with_reducible exact Nat.le_refl _ | (simp; done) | omega | (simp; omega) | exact Nat.le_refl _)))))
  have cA09 := cell_keep e9 cA08
  have cA19 := cell_keep e9 cA18
  have cA29 := cell_keep e9 cA28
  have tAa9 := tAa8.keep e9 (by omega)
  have tAb9 := tAb8.keep e9 (by omega)
  have tAc9 := tAc8.keep e9 (by omega)
  have tX9 := tX8.keep e9 (by omega)
  clear hw9 lcA08 cA08 cA18 cA28 tAa8 tAb8 tAc8 tX8
  refine (toCon_any false 0 w.heap.size _ _ _ cA _ tAa9 tAb9 tAc9 (by omega) (by omega) (by omega) (by omega)).mono ?_; rintro e w10 ⟨uaxA, ubxA, ucxA, M1xA, M2xA, rfl, f10, g0xA, g1xA, g2xA, qaw10, qbw10, qcw10⟩
  have b10 := b9.trans (f10.mono (by omega))
  have z10 := f10.size
  have cA010 := cell_keep f10 cA09
  have cA110 := cell_keep f10 cA19
  have cA210 := cell_keep f10 cA29
  have tAa10 := tAa9.keep f10 (by omega)
  have tAb10 := tAb9.keep f10 (by omega)
  have tAc10 := tAc9.keep f10 (by omega)
  have tX10 := tX9.keep f10 (by omega)
  clear cA09 cA19 cA29 tAa9 tAb9 tAc9 tX9
  obtain ⟨aaxA, kaxA, rfl, laxA, baxA⟩ := qaw10.shape
  obtain ⟨abxA, kbxA, rfl, lbxA, bbxA⟩ := qbw10.shape
  obtain ⟨acxA, kcxA, rfl, lcxA, bcxA⟩ := qcw10.shape
  have lcA010 : w.heap.size < w10.heap.size := World.block_lt_of_cell? _ _ cA010
  go_wp2_with fail
  refine name_call fun w11 hw11 => ?_
  have b11 : Below w.heap.size w w11 := by rw [hw11]; (repeat (first | with_reducible exact Below.refl _ _ | with_reducible assumption | with_reducible refine Below.drew ?_ | with_reducible refine bdrewN ?_ _ | ((with_reducible refine balloc ?_ ?_ _); (focus (first | with_reducible exact Nat.le_refl _ | (simp; done) | omega | (simp; omega) | exact Nat.le_refl _))) | ((with_reducible refine bset ?_ ?_ _); (focus (first | with_reducible exact Nat.le_refl _ | (simp; done) | omega | (simp; omega) | exact Nat.le_refl _)))))
  have z11 : w10.heap.size + 1 ≤ w11.heap.size := by rw [hw11]; simp
  have e11 : Below w10.heap.size w10 w11 := by rw [hw11]; (repeat (first | with_reducible exact Below.refl _ _ | with_reducible assumption | with_reducible refine Below.drew ?_ | with_reducible refine bdrewN ?_ _ | ((with_reducible refine balloc ?_ ?_ _); (focus (first | with_reducible exact Nat.le_refl _ | (simp; done) | omega | (simp; omega) | exact Nat.le_refl _))) | ((with_reducible refine bset ?_ ?_ _); (focus (first | with_reducible exact Nat.le_refl _ | (simp; done) | omega | (simp; omega) | exact Nat.le_refl _)))))
  have cA011 := cell_keep e11 cA010
  have cA111 := cell_keep e11 cA110
  have cA211 := cell_keep e11 cA210
  have cxA011 : w11.cell? ⟨w10.heap.size, 0, none⟩ = some (.slice aaxA cA.a.length kaxA) := by rw [hw11]; first | (simp; done) | go_simp
  have cxA111 : w11.cell? ⟨w10.heap.size, 1, none⟩ = some (.slice abxA cA.b.length kbxA) := by rw [hw11]; first | (simp; done) | go_simp
  have cxA211 : w11.cell? ⟨w10.heap.size, 2, none⟩ = some (.slice acxA cA.c.length kcxA) := by rw [hw11]; first | (simp; done) | go_simp
  have tAa11 := tAa10.keep e11 (by omega)
  have tAb11 := tAb10.keep e11 (by omega)
  have tAc11 := tAc10.keep e11 (by omega)
  have tX11 := tX10.keep e11 (by omega)
  have txAa11 := qaw10.keep e11 (by omega)
  have txAb11 := qbw10.keep e11 (by omega)
  have txAc11 := qcw10.keep e11 (by omega)
  clear hw11 lcA010 cA010 cA110 cA210 tAa10 tAb10 tAc10 tX10
  refine (toIntS_any _ _ _ _ tX11 (by omega) (by omega)).mono ?_; rintro e w12 ⟨uxX, rfl, f12, q12⟩
  have b12 := b11.trans (f12.mono (by omega))
  have z12 := f12.size
  have cA012 := cell_keep f12 cA011
  have cA112 := cell_keep f12 cA111
  have cA212 := cell_keep f12 cA211
  have cxA012 := cell_keep f12 cxA011
  have cxA112 := cell_keep f12 cxA111
  have cxA212 := cell_keep f12 cxA211
  have tAa12 := tAa11.keep f12 (by omega)
  have tAb12 := tAb11.keep f12 (by omega)
  have tAc12 := tAc11.keep f12 (by omega)
  have tX12 := tX11.keep f12 (by omega)
  have txAa12 := txAa11.keep f12 (by omega)
  have txAb12 := txAb11.keep f12 (by omega)
  have txAc12 := txAc11.keep f12 (by omega)
  clear cA011 cA111 cA211 cxA011 cxA111 cxA211 tAa11 tAb11 tAc11 tX11 txAa11 txAb11 txAc11
  obtain ⟨axX, kxX, rfl, laxX, baxX⟩ := q12.shape
  have lcA012 : w.heap.size < w12.heap.size := World.block_lt_of_cell? _ _ cA012
  have lcxA012 : w10.heap.size < w12.heap.size := World.block_lt_of_cell? _ _ cxA012
  go_wp2_with fail
  refine name_call fun w13 hw13 => ?_
  have b13 : Below w.heap.size w w13 := by rw [hw13]; (repeat (first | with_reducible exact Below.refl _ _ | with_reducible assumption | with_reducible refine Below.drew ?_ | with_reducible refine bdrewN ?_ _ | ((with_reducible refine balloc ?_ ?_ _); (focus (first | with_reducible exact Nat.le_refl _ | (simp; done) | omega | (simp; omega) | exact Nat.le_refl _))) | ((with_reducible refine bset ?_ ?_ _); (focus (first | with_reducible exact Nat.le_refl _ | (simp; done) | omega | (simp; omega) | exact Nat.le_refl _)))))
  have z13 : w12.heap.size + 0 ≤ w13.heap.size := by rw [hw13]; simp
  have e13 : Below w12.heap.size w12 w13 := by rw [hw13]; (repeat (first | with_reducible exact Below.refl _ _ | with_reducible assumption | with_reducible refine Below.drew ?_ | with_reducible refine bdrewN ?_ _ | ((with_reducible refine balloc ?_ ?_ _); (focus (first | with_reducible exact Nat.le_refl _ | (simp; done) | omega | (simp; omega) | exact Nat.le_refl _))) | ((with_reducible refine bset ?_ ?_ _); (focus (first | with_reducible exact Nat.le_refl _ | (simp; done) | omega | (simp; omega) | exact Nat.le_refl _)))))
  have cA013 := cell_keep e13 cA012
  have cA113 := cell_keep e13 cA112
  have cA213 := cell_keep e13 cA212
  have cxA013 := cell_keep e13 cxA012
  have cxA113 := cell_keep e13 cxA112
  have cxA213 := cell_keep e13 cxA212
  have tAa13 := tAa12.keep e13 (by omega)
  have tAb13 := tAb12.keep e13 (by omega)
  have tAc13 := tAc12.keep e13 (by omega)
  have tX13 := tX12.keep e13 (by omega)
  have txAa13 := txAa12.keep e13 (by omega)
  have txAb13 := txAb12.keep e13 (by omega)
  have txAc13 := txAc12.keep e13 (by omega)
  have txX13 := q12.keep e13 (by omega)
  clear hw13 lcA012 lcxA012 cA012 cA112 cA212 cxA012 cxA112 cxA212 tAa12 tAb12 tAc12 tX12 txAa12 txAb12 txAc12
  refine (hold_impl true 0 w13.heap.size _ _ _ cA _ _ tsX _ (txAa13.mono (l' := 0) (h' := w13.heap.size) (by omega) (by omega)) (txAb13.mono (l' := 0) (h' := w13.heap.size) (by omega) (by omega)) (txAc13.mono (l' := 0) (h' := w13.heap.size) (by omega) (by omega)) (Nat.le_refl _) txX13 (by omega) hlX).mono ?_; rintro e w14 ⟨rfl, f14⟩
  have b14 := b13.trans (f14.mono (by omega))
  have z14 := f14.size
  have cA014 := cell_keep f14 cA013
  have cA114 := cell_keep f14 cA113
  have cA214 := cell_keep f14 cA213
  have cxA014 := cell_keep f14 cxA013
  have cxA114 := cell_keep f14 cxA113
  have cxA214 := cell_keep f14 cxA213
  have tAa14 := tAa13.keep f14 (by omega)
  have tAb14 := tAb13.keep f14 (by omega)
  have tAc14 := tAc13.keep f14 (by omega)
  have tX14 := tX13.keep f14 (by omega)
  have txAa14 := txAa13.keep f14 (by omega)
  have txAb14 := txAb13.keep f14 (by omega)
  have txAc14 := txAc13.keep f14 (by omega)
  have txX14 := txX13.keep f14 (by omega)
  clear cA013 cA113 cA213 cxA013 cxA113 cxA213 tAa13 tAb13 tAc13 tX13 txAa13 txAb13 txAc13 txX13
  have lcA014 : w.heap.size < w14.heap.size := World.block_lt_of_cell? _ _ cA014
  have lcxA014 : w10.heap.size < w14.heap.size := World.block_lt_of_cell? _ _ cxA014
  go_wp2_with fail
  refine name_wp fun w15 hw15 => ?_
  have b15 : Below w.heap.size w w15 := by rw [hw15]; (repeat (first | with_reducible exact Below.refl _ _ | with_reducible assumption | with_reducible refine Below.drew ?_ | with_reducible refine bdrewN ?_ _ | ((with_reducible refine balloc ?_ ?_ _); (focus (first | with_reducible exact Nat.le_refl _ | (simp; done) | omega | (simp; omega) | exact Nat.le_refl _))) | ((with_reducible refine bset ?_ ?_ _); (focus (first | with_reducible exact Nat.le_refl _ | (simp; done) | omega | (simp; omega) | exact Nat.le_refl _)))))
  have z15 : w14.heap.size + 0 ≤ w15.heap.size := by rw [hw15]; simp
  have e15 : Below w14.heap.size w14 w15 := by rw [hw15]; (repeat (first | with_reducible exact Below.refl _ _ | with_reducible assumption | with_reducible refine Below.drew ?_ | with_reducible refine bdrewN ?_ _ | ((with_reducible refine balloc ?_ ?_ _); (focus (first | with_reducible exact Nat.le_refl _ | (simp; done) | omega | (simp; omega) | exact Nat.le_refl _))) | ((with_reducible refine bset ?_ ?_ _); (focus (first | with_reducible exact Nat.le_refl _ | (simp; done) | omega | (simp; omega) | exact Nat.le_refl _)))))
  have cA015 := cell_keep e15 cA014
  have cA115 := cell_keep e15 cA114
  have cA215 := cell_keep e15 cA214
  have cxA015 := cell_keep e15 cxA014
  have cxA115 := cell_keep e15 cxA114
  have cxA215 := cell_keep e15 cxA214
  have tAa15 := tAa14.keep e15 (by omega)
  have tAb15 := tAb14.keep e15 (by omega)
  have tAc15 := tAc14.keep e15 (by omega)
  have tX15 := tX14.keep e15 (by omega)
  have txAa15 := txAa14.keep e15 (by omega)
  have txAb15 := txAb14.keep e15 (by omega)
  have txAc15 := txAc14.keep e15 (by omega)
  have txX15 := txX14.keep e15 (by omega)
  clear hw15 lcA014 lcxA014 cA014 cA114 cA214 cxA014 cxA114 cxA214 tAa14 tAb14 tAc14 tX14 txAa14 txAb14 txAc14 txX14
  have d15 : Below w15.heap.size w15 w15.drew := (Below.refl _ _).drew
  have zd15 : w15.heap.size ≤ w15.drew.heap.size := Nat.le_refl _
  have ze15 : w15.drew.heap.size ≤ w15.heap.size := Nat.le_refl _
  have GxA0 : w15.drew.cell? ⟨w10.heap.size, 0, none⟩ = some (.slice aaxA cA.a.length kaxA) := cell_keep d15 cxA015
  have GxA1 : w15.drew.cell? ⟨w10.heap.size, 1, none⟩ = some (.slice abxA cA.b.length kbxA) := cell_keep d15 cxA115
  have GxA2 : w15.drew.cell? ⟨w10.heap.size, 2, none⟩ = some (.slice acxA cA.c.length kcxA) := cell_keep d15 cxA215
  have GA0 : w15.drew.cell? ⟨w.heap.size, 0, none⟩ = some (.slice aaA cA.a.length kaA) := cell_keep d15 cA015
  have GA1 : w15.drew.cell? ⟨w.heap.size, 1, none⟩ = some (.slice abA cA.b.length kbA) := cell_keep d15 cA115
  have GA2 : w15.drew.cell? ⟨w.heap.size, 2, none⟩ = some (.slice acA cA.c.length kcA) := cell_keep d15 cA215
  have UAa := tAa15.keep d15 (by omega)
  have UAb := tAb15.keep d15 (by omega)
  have UAc := tAc15.keep d15 (by omega)
  have UxAa := txAa15.keep d15 (by omega)
  have UxAb := txAb15.keep d15 (by omega)
  have UxAc := txAc15.keep d15 (by omega)
  go_region_held3 (fun w' => w'.cell? ⟨w10.heap.size, 0, none⟩ = some (.slice aaxA cA.a.length kaxA) ∧ w'.cell? ⟨w10.heap.size, 1, none⟩ = some (.slice abxA cA.b.length kbxA) ∧ w'.cell? ⟨w10.heap.size, 2, none⟩ = some (.slice acxA cA.c.length kcxA) ∧ w'.cell? ⟨w.heap.size, 0, none⟩ = some (.slice aaA cA.a.length kaA) ∧ w'.cell? ⟨w.heap.size, 1, none⟩ = some (.slice abA cA.b.length kbA) ∧ w'.cell? ⟨w.heap.size, 2, none⟩ = some (.slice acA cA.c.length kcA)) (first | exact ⟨GxA0, GxA1, GxA2, GA0, GA1, GA2⟩ | exact ⟨cell_keep j1 GxA0, cell_keep j1 GxA1, cell_keep j1 GxA2, cell_keep j1 GA0, cell_keep j1 GA1, cell_keep j1 GA2⟩ | exact ⟨cell_keep j2 (cell_keep j1 GxA0), cell_keep j2 (cell_keep j1 GxA1), cell_keep j2 (cell_keep j1 GxA2), cell_keep j2 (cell_keep j1 GA0), cell_keep j2 (cell_keep j1 GA1), cell_keep j2 (cell_keep j1 GA2)⟩)
    (first
      | (go_at_call 25; refine (toCon_any false 0 w.heap.size _ _ _ cA w15.drew UAa UAb UAc (by omega) (by omega) (by omega) (by omega)).mono ?_; rintro e v1 ⟨ua1, ub1, uc1, M11, M21, rfl, j1, g01, g11, g21, qa1, qb1, qc1⟩; obtain ⟨aa1, ka1, rfl, la1, ba1⟩ := qa1.shape; obtain ⟨ab1, kb1, rfl, lb1, bb1⟩ := qb1.shape; obtain ⟨ac1, kc1, rfl, lc1, bc1⟩ := qc1.shape; have s1 := j1.size)
      | (go_at_call 28; refine (eqCon_same true 0 w15.drew.heap.size _ _ _ true 0 v1.heap.size _ _ _ cA v1 ((UxAa.mono (l' := 0) (h' := w15.drew.heap.size) (by omega) (by omega)).keep j1 (by omega)) (qa1.mono (l' := 0) (h' := v1.heap.size) (by omega) (by omega)) ((UxAb.mono (l' := 0) (h' := w15.drew.heap.size) (by omega) (by omega)).keep j1 (by omega)) (qb1.mono (l' := 0) (h' := v1.heap.size) (by omega) (by omega)) ((UxAc.mono (l' := 0) (h' := w15.drew.heap.size) (by omega) (by omega)).keep j1 (by omega)) (qc1.mono (l' := 0) (h' := v1.heap.size) (by omega) (by omega)) (by omega) (Nat.le_refl _)).mono ?_; rintro e v2 ⟨rfl, j2⟩))
  have s2 := j2.size
  have f16 : Below w15.heap.size w15 v2 := (d15.trans (j1.mono (by omega))).trans (j2.mono (by omega))
  have b16 := b15.trans (f16.mono (by omega))
  have z16 := f16.size
  have cA016 := cell_keep f16 cA015
  have cA116 := cell_keep f16 cA115
  have cA216 := cell_keep f16 cA215
  have cxA016 := cell_keep f16 cxA015
  have cxA116 := cell_keep f16 cxA115
  have cxA216 := cell_keep f16 cxA215
  have tAa16 := tAa15.keep f16 (by omega)
  have tAb16 := tAb15.keep f16 (by omega)
  have tAc16 := tAc15.keep f16 (by omega)
  have tX16 := tX15.keep f16 (by omega)
  have txAa16 := txAa15.keep f16 (by omega)
  have txAb16 := txAb15.keep f16 (by omega)
  have txAc16 := txAc15.keep f16 (by omega)
  have txX16 := txX15.keep f16 (by omega)
  clear cA015 cA115 cA215 cxA015 cxA115 cxA215 tAa15 tAb15 tAc15 tX15 txAa15 txAb15 txAc15 txX15 GxA0 GxA1 GxA2 GA0 GA1 GA2 UAa UAb UAc UxAa UxAb UxAc
  have lcA016 : w.heap.size < v2.heap.size := World.block_lt_of_cell? _ _ cA016
  have lcxA016 : w10.heap.size < v2.heap.size := World.block_lt_of_cell? _ _ cxA016
  go_wp2_with fail
  refine name_call fun w17 hw17 => ?_
  have b17 : Below w.heap.size w w17 := by rw [hw17]; (repeat (first | with_reducible exact Below.refl _ _ | with_reducible assumption | with_reducible refine Below.drew ?_ | with_reducible refine bdrewN ?_ _ | ((with_reducible refine balloc ?_ ?_ _); (focus (first | with_reducible exact Nat.le_refl _ | (simp; done) | omega | (simp; omega) | exact Nat.le_refl _))) | ((with_reducible refine bset ?_ ?_ _); (focus (first | with_reducible exact Nat.le_refl _ | (simp; done) | omega | (simp; omega) | exact Nat.le_refl _)))))
  have z17 : v2.heap.size + 0 ≤ w17.heap.size := by rw [hw17]; simp
  have e17 : Below v2.heap.size v2 w17 := by rw [hw17]; (repeat (first | with_reducible exact Below.refl _ _ | with_reducible assumption | with_reducible refine Below.drew ?_ | with_reducible refine bdrewN ?_ _ | ((with_reducible refine balloc ?_ ?_ _); (focus (first | with_reducible exact Nat.le_refl _ | (simp; done) | omega | (simp; omega) | exact Nat.le_refl _))) | ((with_reducible refine bset ?_ ?_ _); (focus (first | with_reducible exact Nat.le_refl _ | (simp; done) | omega | (simp; omega) | exact Nat.le_refl _)))))
  have cA017 := cell_keep e17 cA016
  have cA117 := cell_keep e17 cA116
  have cA217 := cell_keep e17 cA216
  have cxA017 := cell_keep e17 cxA016
  have cxA117 := cell_keep e17 cxA116
  have cxA217 := cell_keep e17 cxA216
  have tAa17 := tAa16.keep e17 (by omega)
  have tAb17 := tAb16.keep e17 (by omega)
  have tAc17 := tAc16.keep e17 (by omega)
  have tX17 := tX16.keep e17 (by omega)
  have txAa17 := txAa16.keep e17 (by omega)
  have txAb17 := txAb16.keep e17 (by omega)
  have txAc17 := txAc16.keep e17 (by omega)
  have txX17 := txX16.keep e17 (by omega)
  clear hw17 lcA016 lcxA016 cA016 cA116 cA216 cxA016 cxA116 cxA216 tAa16 tAb16 tAc16 tX16 txAa16 txAb16 txAc16 txX16
  refine (toIntS_any _ _ _ _ tX17 (by omega) (by omega)).mono ?_; rintro e w18 ⟨uyX, rfl, f18, q18⟩
  have b18 := b17.trans (f18.mono (by omega))
  have z18 := f18.size
  have cA018 := cell_keep f18 cA017
  have cA118 := cell_keep f18 cA117
  have cA218 := cell_keep f18 cA217
  have cxA018 := cell_keep f18 cxA017
  have cxA118 := cell_keep f18 cxA117
  have cxA218 := cell_keep f18 cxA217
  have tAa18 := tAa17.keep f18 (by omega)
  have tAb18 := tAb17.keep f18 (by omega)
  have tAc18 := tAc17.keep f18 (by omega)
  have tX18 := tX17.keep f18 (by omega)
  have txAa18 := txAa17.keep f18 (by omega)
  have txAb18 := txAb17.keep f18 (by omega)
  have txAc18 := txAc17.keep f18 (by omega)
  have txX18 := txX17.keep f18 (by omega)
  clear cA017 cA117 cA217 cxA017 cxA117 cxA217 tAa17 tAb17 tAc17 tX17 txAa17 txAb17 txAc17 txX17
  obtain ⟨ayX, kyX, rfl, layX, bayX⟩ := q18.shape
  have lcA018 : w.heap.size < w18.heap.size := World.block_lt_of_cell? _ _ cA018
  have lcxA018 : w10.heap.size < w18.heap.size := World.block_lt_of_cell? _ _ cxA018
  go_wp2_with fail
  refine name_call fun w19 hw19 => ?_
  have b19 : Below w.heap.size w w19 := by rw [hw19]; (repeat (first | with_reducible exact Below.refl _ _ | with_reducible assumption | with_reducible refine Below.drew ?_ | with_reducible refine bdrewN ?_ _ | ((with_reducible refine balloc ?_ ?_ _); (focus (first | with_reducible exact Nat.le_refl _ | (simp; done) | omega | (simp; omega) | exact Nat.le_refl _))) | ((with_reducible refine bset ?_ ?_ _); (focus (first | with_reducible exact Nat.le_refl _ | (simp; done) | omega | (simp; omega) | exact Nat.le_refl _)))))
  have z19 : w18.heap.size + 0 ≤ w19.heap.size := by rw [hw19]; simp
  have e19 : Below w18.heap.size w18 w19 := by rw [hw19]; (repeat (first | with_reducible exact Below.refl _ _ | with_reducible assumption | with_reducible refine Below.drew ?_ | with_reducible refine bdrewN ?_ _ | ((with_reducible refine balloc ?_ ?_ _); (focus (first | with_reducible exact Nat.le_refl _ | (simp; done) | omega | (simp; omega) | exact Nat.le_refl _))) | ((with_reducible refine bset ?_ ?_ _); (focus (first | with_reducible exact Nat.le_refl _ | (simp; done) | omega | (simp; omega) | exact Nat.le_refl _)))))
  have cA019 := cell_keep e19 cA018
  have cA119 := cell_keep e19 cA118
  have cA219 := cell_keep e19 cA218
  have cxA019 := cell_keep e19 cxA018
  have cxA119 := cell_keep e19 cxA118
  have cxA219 := cell_keep e19 cxA218
  have tAa19 := tAa18.keep e19 (by omega)
  have tAb19 := tAb18.keep e19 (by omega)
  have tAc19 := tAc18.keep e19 (by omega)
  have tX19 := tX18.keep e19 (by omega)
  have txAa19 := txAa18.keep e19 (by omega)
  have txAb19 := txAb18.keep e19 (by omega)
  have txAc19 := txAc18.keep e19 (by omega)
  have txX19 := txX18.keep e19 (by omega)
  have tyX19 := q18.keep e19 (by omega)
  clear hw19 lcA018 lcxA018 cA018 cA118 cA218 cxA018 cxA118 cxA218 tAa18 tAb18 tAc18 tX18 txAa18 txAb18 txAc18 txX18
  refine (eqInts_any _ _ _ _ _ _ _ txX19 tyX19 (by omega) (by omega)).mono ?_; rw [dec_self]; rintro e w20 ⟨rfl, f20⟩
  have b20 := b19.trans (f20.mono (by omega))
  have z20 := f20.size
  have cA020 := cell_keep f20 cA019
  have cA120 := cell_keep f20 cA119
  have cA220 := cell_keep f20 cA219
  have cxA020 := cell_keep f20 cxA019
  have cxA120 := cell_keep f20 cxA119
  have cxA220 := cell_keep f20 cxA219
  have tAa20 := tAa19.keep f20 (by omega)
  have tAb20 := tAb19.keep f20 (by omega)
  have tAc20 := tAc19.keep f20 (by omega)
  have tX20 := tX19.keep f20 (by omega)
  have txAa20 := txAa19.keep f20 (by omega)
  have txAb20 := txAb19.keep f20 (by omega)
  have txAc20 := txAc19.keep f20 (by omega)
  have txX20 := txX19.keep f20 (by omega)
  have tyX20 := tyX19.keep f20 (by omega)
  clear cA019 cA119 cA219 cxA019 cxA119 cxA219 tAa19 tAb19 tAc19 tX19 txAa19 txAb19 txAc19 txX19 tyX19
  clear tyX20
  go_wp2_with fail
  go_ret
  exact ⟨rfl, b20⟩
end Go.Proofs.Ytaohghgdjnkgdaa.L
