/- Exact laws of layer 3 (written by tools/lawsys.py): the program's function and its model return the same, write into no argument, and own what they return. -/
import Derived.Test.YtaohghgdjnkgdaaCheck
import Derived.Test.YtaohghgdjnkgdaaToSys
import Derived.Test.YtaohghgdjnkgdaaEqS
namespace Go.Proofs.Ytaohghgdjnkgdaa.L
open Go.RowKit Go.Proofs.Ytaohghgdjnkgdaa.S
set_option linter.unusedVariables false
set_option linter.unusedSimpArgs false

set_option maxRecDepth 100000 in
set_option maxHeartbeats 6400000 in
theorem law_FnExactVarCount (viA voA vhA vcA : Value) (sA : SysC) (w : World) (hA : SysR false 0 w.heap.size w viA voA vhA vcA sA) :
    Calls Try.prog 10 #[.agg #[viA, voA, vhA, vcA]] w fun e w' => e = .returned (.bool true) ∧ Below w.heap.size w w' := by
  obtain ⟨aoA, koA, ahA, khA, acA, kcA, rfl, rfl, rfl, rfl, loA, boA, lhA, bhA, lcA, bcA, fiA⟩ := hA.shape
  by_cases hlA : szS sA ≤ 1048576
  case' neg =>
    go_enter Try.func10, Try.ntmps10
    go_wp2_with fail
    refine name_call fun w1 hw1 => ?_
    have b1 : Below w.heap.size w w1 := by rw [hw1]; (repeat (first | with_reducible exact Below.refl _ _ | with_reducible assumption | with_reducible refine Below.drew ?_ | with_reducible refine bdrewN ?_ _ | ((with_reducible refine balloc ?_ ?_ _); (focus (first | with_reducible exact Nat.le_refl _ | (simp; done) | omega | (simp; omega) | exact Nat.le_refl _))) | ((with_reducible refine bset ?_ ?_ _); (focus (first | with_reducible exact Nat.le_refl _ | (simp; done) | omega | (simp; omega) | exact Nat.le_refl _)))))
    have z1 : w.heap.size + 1 ≤ w1.heap.size := by rw [hw1]; simp
    have e1 : Below w.heap.size w w1 := by rw [hw1]; (repeat (first | with_reducible exact Below.refl _ _ | with_reducible assumption | with_reducible refine Below.drew ?_ | with_reducible refine bdrewN ?_ _ | ((with_reducible refine balloc ?_ ?_ _); (focus (first | with_reducible exact Nat.le_refl _ | (simp; done) | omega | (simp; omega) | exact Nat.le_refl _))) | ((with_reducible refine bset ?_ ?_ _); (focus (first | with_reducible exact Nat.le_refl _ | (simp; done) | omega | (simp; omega) | exact Nat.le_refl _)))))
    have cA01 : w1.cell? ⟨w.heap.size, 0, none⟩ = some (.int .i64 sA.ins) := by rw [hw1]; first | (simp; done) | go_simp
    have cA11 : w1.cell? ⟨w.heap.size, 1, none⟩ = some (.slice aoA sA.outs.length koA) := by rw [hw1]; first | (simp; done) | go_simp
    have cA21 : w1.cell? ⟨w.heap.size, 2, none⟩ = some (.slice ahA sA.hints.length khA) := by rw [hw1]; first | (simp; done) | go_simp
    have cA31 : w1.cell? ⟨w.heap.size, 3, none⟩ = some (.slice acA sA.cons.length kcA) := by rw [hw1]; first | (simp; done) | go_simp
    have tA1 := hA.keep e1 (by omega)
    clear hw1
    refine (szSys_no false 0 w.heap.size _ _ _ _ sA 1048576 _ tA1 (by omega) (by omega) (by omega) (by omega)).mono ?_; rintro e w2 ⟨rfl, f2⟩
    have b2 := b1.trans (f2.mono (by omega))
    have z2 := f2.size
    have cA02 := cell_keep f2 cA01
    have cA12 := cell_keep f2 cA11
    have cA22 := cell_keep f2 cA21
    have cA32 := cell_keep f2 cA31
    have tA2 := tA1.keep f2 (by omega)
    clear cA01 cA11 cA21 cA31 tA1
    go_wp2_with fail
    go_ret
    exact ⟨rfl, b2⟩
  have nS : szLs sA.outs + szHs sA.hints + szCs sA.cons ≤ 1048576 := hlA
  have nO : sA.outs.length ≤ 1048576 := by unfold szLs at nS; omega
  have nH : sA.hints.length ≤ 1048576 := by unfold szHs at nS; omega
  have nC : sA.cons.length ≤ 1048576 := by unfold szCs at nS; omega
  have q0 : 0 ≤ (1048576 : Int) - szLs sA.outs - szHs sA.hints - szCs sA.cons := by omega
  go_enter Try.func10, Try.ntmps10
  go_wp2_with fail
  refine name_call fun w1 hw1 => ?_
  have b1 : Below w.heap.size w w1 := by rw [hw1]; (repeat (first | with_reducible exact Below.refl _ _ | with_reducible assumption | with_reducible refine Below.drew ?_ | with_reducible refine bdrewN ?_ _ | ((with_reducible refine balloc ?_ ?_ _); (focus (first | with_reducible exact Nat.le_refl _ | (simp; done) | omega | (simp; omega) | exact Nat.le_refl _))) | ((with_reducible refine bset ?_ ?_ _); (focus (first | with_reducible exact Nat.le_refl _ | (simp; done) | omega | (simp; omega) | exact Nat.le_refl _)))))
  have z1 : w.heap.size + 1 ≤ w1.heap.size := by rw [hw1]; simp
  have e1 : Below w.heap.size w w1 := by rw [hw1]; (repeat (first | with_reducible exact Below.refl _ _ | with_reducible assumption | with_reducible refine Below.drew ?_ | with_reducible refine bdrewN ?_ _ | ((with_reducible refine balloc ?_ ?_ _); (focus (first | with_reducible exact Nat.le_refl _ | (simp; done) | omega | (simp; omega) | exact Nat.le_refl _))) | ((with_reducible refine bset ?_ ?_ _); (focus (first | with_reducible exact Nat.le_refl _ | (simp; done) | omega | (simp; omega) | exact Nat.le_refl _)))))
  have cA01 : w1.cell? ⟨w.heap.size, 0, none⟩ = some (.int .i64 sA.ins) := by rw [hw1]; first | (simp; done) | go_simp
  have cA11 : w1.cell? ⟨w.heap.size, 1, none⟩ = some (.slice aoA sA.outs.length koA) := by rw [hw1]; first | (simp; done) | go_simp
  have cA21 : w1.cell? ⟨w.heap.size, 2, none⟩ = some (.slice ahA sA.hints.length khA) := by rw [hw1]; first | (simp; done) | go_simp
  have cA31 : w1.cell? ⟨w.heap.size, 3, none⟩ = some (.slice acA sA.cons.length kcA) := by rw [hw1]; first | (simp; done) | go_simp
  have tA1 := hA.keep e1 (by omega)
  clear hw1
  refine (szSys_ok false 0 w.heap.size _ _ _ _ sA 1048576 _ tA1 (by omega) (by omega) (by omega) (by omega)).mono ?_; rintro e w2 ⟨rfl, f2⟩
  have b2 := b1.trans (f2.mono (by omega))
  have z2 := f2.size
  have cA02 := cell_keep f2 cA01
  have cA12 := cell_keep f2 cA11
  have cA22 := cell_keep f2 cA21
  have cA32 := cell_keep f2 cA31
  have tA2 := tA1.keep f2 (by omega)
  clear cA01 cA11 cA21 cA31 tA1
  have lcA02 : w.heap.size < w2.heap.size := World.block_lt_of_cell? _ _ cA02
  go_wp2_with fail
  refine name_call fun w3 hw3 => ?_
  have b3 : Below w.heap.size w w3 := by rw [hw3]; (repeat (first | with_reducible exact Below.refl _ _ | with_reducible assumption | with_reducible refine Below.drew ?_ | with_reducible refine bdrewN ?_ _ | ((with_reducible refine balloc ?_ ?_ _); (focus (first | with_reducible exact Nat.le_refl _ | (simp; done) | omega | (simp; omega) | exact Nat.le_refl _))) | ((with_reducible refine bset ?_ ?_ _); (focus (first | with_reducible exact Nat.le_refl _ | (simp; done) | omega | (simp; omega) | exact Nat.le_refl _)))))
  have z3 : w2.heap.size + 0 ≤ w3.heap.size := by rw [hw3]; simp
  have e3 : Below w2.heap.size w2 w3 := by rw [hw3]; (repeat (first | with_reducible exact Below.refl _ _ | with_reducible assumption | with_reducible refine Below.drew ?_ | with_reducible refine bdrewN ?_ _ | ((with_reducible refine balloc ?_ ?_ _); (focus (first | with_reducible exact Nat.le_refl _ | (simp; done) | omega | (simp; omega) | exact Nat.le_refl _))) | ((with_reducible refine bset ?_ ?_ _); (focus (first | with_reducible exact Nat.le_refl _ | (simp; done) | omega | (simp; omega) | exact Nat.le_refl _)))))
  have cA03 := cell_keep e3 cA02
  have cA13 := cell_keep e3 cA12
  have cA23 := cell_keep e3 cA22
  have cA33 := cell_keep e3 cA32
  have tA3 := tA2.keep e3 (by omega)
  clear hw3 lcA02 cA02 cA12 cA22 cA32 tA2
  refine (toSys_any false 0 w.heap.size _ _ _ _ sA _ tA3 (by omega) hlA).mono ?_; rintro e w4 ⟨uomA, uhmA, ucmA, rfl, f4, q4⟩
  have b4 := b3.trans (f4.mono (by omega))
  have z4 := f4.size
  have cA04 := cell_keep f4 cA03
  have cA14 := cell_keep f4 cA13
  have cA24 := cell_keep f4 cA23
  have cA34 := cell_keep f4 cA33
  have tA4 := tA3.keep f4 (by omega)
  clear cA03 cA13 cA23 cA33 tA3
  obtain ⟨aomA, komA, ahmA, khmA, acmA, kcmA, -, rfl, rfl, rfl, lomA, bomA, lhmA, bhmA, lcmA, bcmA, -⟩ := q4.shape
  have lcA04 : w.heap.size < w4.heap.size := World.block_lt_of_cell? _ _ cA04
  go_wp2_with fail
  refine name_call fun w5 hw5 => ?_
  have b5 : Below w.heap.size w w5 := by rw [hw5]; (repeat (first | with_reducible exact Below.refl _ _ | with_reducible assumption | with_reducible refine Below.drew ?_ | with_reducible refine bdrewN ?_ _ | ((with_reducible refine balloc ?_ ?_ _); (focus (first | with_reducible exact Nat.le_refl _ | (simp; done) | omega | (simp; omega) | exact Nat.le_refl _))) | ((with_reducible refine bset ?_ ?_ _); (focus (first | with_reducible exact Nat.le_refl _ | (simp; done) | omega | (simp; omega) | exact Nat.le_refl _)))))
  have z5 : w4.heap.size + 0 ≤ w5.heap.size := by rw [hw5]; simp
  have e5 : Below w4.heap.size w4 w5 := by rw [hw5]; (repeat (first | with_reducible exact Below.refl _ _ | with_reducible assumption | with_reducible refine Below.drew ?_ | with_reducible refine bdrewN ?_ _ | ((with_reducible refine balloc ?_ ?_ _); (focus (first | with_reducible exact Nat.le_refl _ | (simp; done) | omega | (simp; omega) | exact Nat.le_refl _))) | ((with_reducible refine bset ?_ ?_ _); (focus (first | with_reducible exact Nat.le_refl _ | (simp; done) | omega | (simp; omega) | exact Nat.le_refl _)))))
  have cA05 := cell_keep e5 cA04
  have cA15 := cell_keep e5 cA14
  have cA25 := cell_keep e5 cA24
  have cA35 := cell_keep e5 cA34
  have tA5 := tA4.keep e5 (by omega)
  have tmA5 := q4.keep e5 (by omega)
  clear hw5 lcA04 cA04 cA14 cA24 cA34 tA4
  refine (varCount_spec _ _ _ _ _ _ _ sA _ tmA5 (by omega) nH nO nC).mono ?_; rintro e w6 ⟨rfl, f6⟩
  have b6 := b5.trans (f6.mono (by omega))
  have z6 := f6.size
  have cA06 := cell_keep f6 cA05
  have cA16 := cell_keep f6 cA15
  have cA26 := cell_keep f6 cA25
  have cA36 := cell_keep f6 cA35
  have tA6 := tA5.keep f6 (by omega)
  have tmA6 := tmA5.keep f6 (by omega)
  clear cA05 cA15 cA25 cA35 tA5 tmA5
  clear tmA6
  have lcA06 : w.heap.size < w6.heap.size := World.block_lt_of_cell? _ _ cA06
  go_wp2_with fail
  refine name_call fun w7 hw7 => ?_
  have b7 : Below w.heap.size w w7 := by rw [hw7]; (repeat (first | with_reducible exact Below.refl _ _ | with_reducible assumption | with_reducible refine Below.drew ?_ | with_reducible refine bdrewN ?_ _ | ((with_reducible refine balloc ?_ ?_ _); (focus (first | with_reducible exact Nat.le_refl _ | (simp; done) | omega | (simp; omega) | exact Nat.le_refl _))) | ((with_reducible refine bset ?_ ?_ _); (focus (first | with_reducible exact Nat.le_refl _ | (simp; done) | omega | (simp; omega) | exact Nat.le_refl _)))))
  have z7 : w6.heap.size + 0 ≤ w7.heap.size := by rw [hw7]; simp
  have e7 : Below w6.heap.size w6 w7 := by rw [hw7]; (repeat (first | with_reducible exact Below.refl _ _ | with_reducible assumption | with_reducible refine Below.drew ?_ | with_reducible refine bdrewN ?_ _ | ((with_reducible refine balloc ?_ ?_ _); (focus (first | with_reducible exact Nat.le_refl _ | (simp; done) | omega | (simp; omega) | exact Nat.le_refl _))) | ((with_reducible refine bset ?_ ?_ _); (focus (first | with_reducible exact Nat.le_refl _ | (simp; done) | omega | (simp; omega) | exact Nat.le_refl _)))))
  have cA07 := cell_keep e7 cA06
  have cA17 := cell_keep e7 cA16
  have cA27 := cell_keep e7 cA26
  have cA37 := cell_keep e7 cA36
  have tA7 := tA6.keep e7 (by omega)
  clear hw7 lcA06 cA06 cA16 cA26 cA36 tA6
  refine (toSys_any false 0 w.heap.size _ _ _ _ sA _ tA7 (by omega) hlA).mono ?_; rintro e w8 ⟨uoxA, uhxA, ucxA, rfl, f8, q8⟩
  have b8 := b7.trans (f8.mono (by omega))
  have z8 := f8.size
  have cA08 := cell_keep f8 cA07
  have cA18 := cell_keep f8 cA17
  have cA28 := cell_keep f8 cA27
  have cA38 := cell_keep f8 cA37
  have tA8 := tA7.keep f8 (by omega)
  clear cA07 cA17 cA27 cA37 tA7
  obtain ⟨aoxA, koxA, ahxA, khxA, acxA, kcxA, -, rfl, rfl, rfl, loxA, boxA, lhxA, bhxA, lcxA, bcxA, -⟩ := q8.shape
  have lcA08 : w.heap.size < w8.heap.size := World.block_lt_of_cell? _ _ cA08
  go_wp2_with fail
  refine name_call fun w9 hw9 => ?_
  have b9 : Below w.heap.size w w9 := by rw [hw9]; (repeat (first | with_reducible exact Below.refl _ _ | with_reducible assumption | with_reducible refine Below.drew ?_ | with_reducible refine bdrewN ?_ _ | ((with_reducible refine balloc ?_ ?_ _); (focus (first | with_reducible exact Nat.le_refl _ | (simp; done) | omega | (simp; omega) | exact Nat.le_refl _))) | ((with_reducible refine bset ?_ ?_ _); (focus (first | with_reducible exact Nat.le_refl _ | (simp; done) | omega | (simp; omega) | exact Nat.le_refl _)))))
  have z9 : w8.heap.size + 1 ≤ w9.heap.size := by rw [hw9]; simp
  have e9 : Below w8.heap.size w8 w9 := by rw [hw9]; (repeat (first | with_reducible exact Below.refl _ _ | with_reducible assumption | with_reducible refine Below.drew ?_ | with_reducible refine bdrewN ?_ _ | ((with_reducible refine balloc ?_ ?_ _); (focus (first | with_reducible exact Nat.le_refl _ | (simp; done) | omega | (simp; omega) | exact Nat.le_refl _))) | ((with_reducible refine bset ?_ ?_ _); (focus (first | with_reducible exact Nat.le_refl _ | (simp; done) | omega | (simp; omega) | exact Nat.le_refl _)))))
  have cA09 := cell_keep e9 cA08
  have cA19 := cell_keep e9 cA18
  have cA29 := cell_keep e9 cA28
  have cA39 := cell_keep e9 cA38
  have cxA09 : w9.cell? ⟨w8.heap.size, 0, none⟩ = some (.int .i64 sA.ins) := by rw [hw9]; first | (simp; done) | go_simp
  have cxA19 : w9.cell? ⟨w8.heap.size, 1, none⟩ = some (.slice aoxA sA.outs.length koxA) := by rw [hw9]; first | (simp; done) | go_simp
  have cxA29 : w9.cell? ⟨w8.heap.size, 2, none⟩ = some (.slice ahxA sA.hints.length khxA) := by rw [hw9]; first | (simp; done) | go_simp
  have cxA39 : w9.cell? ⟨w8.heap.size, 3, none⟩ = some (.slice acxA sA.cons.length kcxA) := by rw [hw9]; first | (simp; done) | go_simp
  have tA9 := tA8.keep e9 (by omega)
  have txA9 := q8.keep e9 (by omega)
  clear hw9 lcA08 cA08 cA18 cA28 cA38 tA8
  refine (varCount_impl _ _ _ _ _ _ _ sA _ txA9 (by omega) nH nO nC).mono ?_; rintro e w10 ⟨rfl, f10⟩
  have b10 := b9.trans (f10.mono (by omega))
  have z10 := f10.size
  have cA010 := cell_keep f10 cA09
  have cA110 := cell_keep f10 cA19
  have cA210 := cell_keep f10 cA29
  have cA310 := cell_keep f10 cA39
  have cxA010 := cell_keep f10 cxA09
  have cxA110 := cell_keep f10 cxA19
  have cxA210 := cell_keep f10 cxA29
  have cxA310 := cell_keep f10 cxA39
  have tA10 := tA9.keep f10 (by omega)
  have txA10 := txA9.keep f10 (by omega)
  clear cA09 cA19 cA29 cA39 cxA09 cxA19 cxA29 cxA39 tA9 txA9
  have lcA010 : w.heap.size < w10.heap.size := World.block_lt_of_cell? _ _ cA010
  have lcxA010 : w8.heap.size < w10.heap.size := World.block_lt_of_cell? _ _ cxA010
  go_wp2_with fail
  refine name_wp fun w11 hw11 => ?_
  have b11 : Below w.heap.size w w11 := by rw [hw11]; (repeat (first | with_reducible exact Below.refl _ _ | with_reducible assumption | with_reducible refine Below.drew ?_ | with_reducible refine bdrewN ?_ _ | ((with_reducible refine balloc ?_ ?_ _); (focus (first | with_reducible exact Nat.le_refl _ | (simp; done) | omega | (simp; omega) | exact Nat.le_refl _))) | ((with_reducible refine bset ?_ ?_ _); (focus (first | with_reducible exact Nat.le_refl _ | (simp; done) | omega | (simp; omega) | exact Nat.le_refl _)))))
  have z11 : w10.heap.size + 0 ≤ w11.heap.size := by rw [hw11]; simp
  have e11 : Below w10.heap.size w10 w11 := by rw [hw11]; (repeat (first | with_reducible exact Below.refl _ _ | with_reducible assumption | with_reducible refine Below.drew ?_ | with_reducible refine bdrewN ?_ _ | ((with_reducible refine balloc ?_ ?_ _); (focus (first | with_reducible exact Nat.le_refl _ | (simp; done) | omega | (simp; omega) | exact Nat.le_refl _))) | ((with_reducible refine bset ?_ ?_ _); (focus (first | with_reducible exact Nat.le_refl _ | (simp; done) | omega | (simp; omega) | exact Nat.le_refl _)))))
  have cA011 := cell_keep e11 cA010
  have cA111 := cell_keep e11 cA110
  have cA211 := cell_keep e11 cA210
  have cA311 := cell_keep e11 cA310
  have cxA011 := cell_keep e11 cxA010
  have cxA111 := cell_keep e11 cxA110
  have cxA211 := cell_keep e11 cxA210
  have cxA311 := cell_keep e11 cxA310
  have tA11 := tA10.keep e11 (by omega)
  have txA11 := txA10.keep e11 (by omega)
  clear hw11 lcA010 lcxA010 cA010 cA110 cA210 cA310 cxA010 cxA110 cxA210 cxA310 tA10 txA10
  have d11 : Below w11.heap.size w11 w11.drew := (Below.refl _ _).drew
  have zd11 : w11.heap.size ≤ w11.drew.heap.size := Nat.le_refl _
  have ze11 : w11.drew.heap.size ≤ w11.heap.size := Nat.le_refl _
  have GxA0 : w11.drew.cell? ⟨w8.heap.size, 0, none⟩ = some (.int .i64 sA.ins) := cell_keep d11 cxA011
  have GxA1 : w11.drew.cell? ⟨w8.heap.size, 1, none⟩ = some (.slice aoxA sA.outs.length koxA) := cell_keep d11 cxA111
  have GxA2 : w11.drew.cell? ⟨w8.heap.size, 2, none⟩ = some (.slice ahxA sA.hints.length khxA) := cell_keep d11 cxA211
  have GxA3 : w11.drew.cell? ⟨w8.heap.size, 3, none⟩ = some (.slice acxA sA.cons.length kcxA) := cell_keep d11 cxA311
  have GA0 : w11.drew.cell? ⟨w.heap.size, 0, none⟩ = some (.int .i64 sA.ins) := cell_keep d11 cA011
  have GA1 : w11.drew.cell? ⟨w.heap.size, 1, none⟩ = some (.slice aoA sA.outs.length koA) := cell_keep d11 cA111
  have GA2 : w11.drew.cell? ⟨w.heap.size, 2, none⟩ = some (.slice ahA sA.hints.length khA) := cell_keep d11 cA211
  have GA3 : w11.drew.cell? ⟨w.heap.size, 3, none⟩ = some (.slice acA sA.cons.length kcA) := cell_keep d11 cA311
  have UA := tA11.keep d11 (by omega)
  have UxA := txA11.keep d11 (by omega)
  go_region_held3 (fun w' => w'.cell? ⟨w8.heap.size, 0, none⟩ = some (.int .i64 sA.ins) ∧ w'.cell? ⟨w8.heap.size, 1, none⟩ = some (.slice aoxA sA.outs.length koxA) ∧ w'.cell? ⟨w8.heap.size, 2, none⟩ = some (.slice ahxA sA.hints.length khxA) ∧ w'.cell? ⟨w8.heap.size, 3, none⟩ = some (.slice acxA sA.cons.length kcxA) ∧ w'.cell? ⟨w.heap.size, 0, none⟩ = some (.int .i64 sA.ins) ∧ w'.cell? ⟨w.heap.size, 1, none⟩ = some (.slice aoA sA.outs.length koA) ∧ w'.cell? ⟨w.heap.size, 2, none⟩ = some (.slice ahA sA.hints.length khA) ∧ w'.cell? ⟨w.heap.size, 3, none⟩ = some (.slice acA sA.cons.length kcA)) (first | exact ⟨GxA0, GxA1, GxA2, GxA3, GA0, GA1, GA2, GA3⟩ | exact ⟨cell_keep j1 GxA0, cell_keep j1 GxA1, cell_keep j1 GxA2, cell_keep j1 GxA3, cell_keep j1 GA0, cell_keep j1 GA1, cell_keep j1 GA2, cell_keep j1 GA3⟩ | exact ⟨cell_keep j2 (cell_keep j1 GxA0), cell_keep j2 (cell_keep j1 GxA1), cell_keep j2 (cell_keep j1 GxA2), cell_keep j2 (cell_keep j1 GxA3), cell_keep j2 (cell_keep j1 GA0), cell_keep j2 (cell_keep j1 GA1), cell_keep j2 (cell_keep j1 GA2), cell_keep j2 (cell_keep j1 GA3)⟩)
    (first
      | (go_at_call 16; refine (toSys_any false 0 w.heap.size _ _ _ _ sA w11.drew UA (by omega) hlA).mono ?_; rintro e v1 ⟨uo1, uh1, uc1, rfl, j1, q1⟩; obtain ⟨ao1, ko1, ah1, kh1, ac1, kc1, -, rfl, rfl, rfl, lo1, bo1, lh1, bh1, lc1, bc1, -⟩ := q1.shape; have s1 := j1.size)
      | (go_at_call 18; refine (eqSys_same _ _ _ _ _ _ _ _ _ _ _ _ _ _ sA v1 (UxA.keep j1 (by omega)) q1 (by omega) (Nat.le_refl _)).mono ?_; rintro e v2 ⟨rfl, j2⟩))
  have s2 := j2.size
  have f12 : Below w11.heap.size w11 v2 := (d11.trans (j1.mono (by omega))).trans (j2.mono (by omega))
  have b12 := b11.trans (f12.mono (by omega))
  have z12 := f12.size
  have cA012 := cell_keep f12 cA011
  have cA112 := cell_keep f12 cA111
  have cA212 := cell_keep f12 cA211
  have cA312 := cell_keep f12 cA311
  have cxA012 := cell_keep f12 cxA011
  have cxA112 := cell_keep f12 cxA111
  have cxA212 := cell_keep f12 cxA211
  have cxA312 := cell_keep f12 cxA311
  have tA12 := tA11.keep f12 (by omega)
  have txA12 := txA11.keep f12 (by omega)
  clear cA011 cA111 cA211 cA311 cxA011 cxA111 cxA211 cxA311 tA11 txA11 GxA0 GxA1 GxA2 GxA3 GA0 GA1 GA2 GA3 UA UxA
  go_wp2_with fail
  go_ret
  exact ⟨rfl, b12⟩

set_option maxRecDepth 100000 in
set_option maxHeartbeats 6400000 in
theorem law_FnExactCheck (viA voA vhA vcA : Value) (sA : SysC) (vX : Value) (tsX : List Int) (w : World) (hA : SysR false 0 w.heap.size w viA voA vhA vcA sA) (hX : Ints w.heap.size w vX tsX) :
    Calls Try.prog 6 #[.agg #[viA, voA, vhA, vcA], vX] w fun e w' => e = .returned (.bool true) ∧ Below w.heap.size w w' := by
  obtain ⟨aoA, koA, ahA, khA, acA, kcA, rfl, rfl, rfl, rfl, loA, boA, lhA, bhA, lcA, bcA, fiA⟩ := hA.shape
  obtain ⟨aX, kX, rfl, laX, baX⟩ := hX.shape
  by_cases hlX : tsX.length ≤ 1048576
  case' neg =>
    go_enter Try.func6, Try.ntmps6
    go_wp2_with fail
    go_ret
    exact ⟨rfl, by (repeat (first | with_reducible exact Below.refl _ _ | with_reducible assumption | with_reducible refine Below.drew ?_ | with_reducible refine bdrewN ?_ _ | ((with_reducible refine balloc ?_ ?_ _); (focus (first | with_reducible exact Nat.le_refl _ | (simp; done) | omega | (simp; omega) | exact Nat.le_refl _))) | ((with_reducible refine bset ?_ ?_ _); (focus (first | with_reducible exact Nat.le_refl _ | (simp; done) | omega | (simp; omega) | exact Nat.le_refl _)))))⟩
  by_cases hlA : szS sA ≤ 1048576
  case' neg =>
    go_enter Try.func6, Try.ntmps6
    go_wp2_with fail
    refine name_call fun w1 hw1 => ?_
    have b1 : Below w.heap.size w w1 := by rw [hw1]; (repeat (first | with_reducible exact Below.refl _ _ | with_reducible assumption | with_reducible refine Below.drew ?_ | with_reducible refine bdrewN ?_ _ | ((with_reducible refine balloc ?_ ?_ _); (focus (first | with_reducible exact Nat.le_refl _ | (simp; done) | omega | (simp; omega) | exact Nat.le_refl _))) | ((with_reducible refine bset ?_ ?_ _); (focus (first | with_reducible exact Nat.le_refl _ | (simp; done) | omega | (simp; omega) | exact Nat.le_refl _)))))
    have z1 : w.heap.size + 1 ≤ w1.heap.size := by rw [hw1]; simp
    have e1 : Below w.heap.size w w1 := by rw [hw1]; (repeat (first | with_reducible exact Below.refl _ _ | with_reducible assumption | with_reducible refine Below.drew ?_ | with_reducible refine bdrewN ?_ _ | ((with_reducible refine balloc ?_ ?_ _); (focus (first | with_reducible exact Nat.le_refl _ | (simp; done) | omega | (simp; omega) | exact Nat.le_refl _))) | ((with_reducible refine bset ?_ ?_ _); (focus (first | with_reducible exact Nat.le_refl _ | (simp; done) | omega | (simp; omega) | exact Nat.le_refl _)))))
    have cA01 : w1.cell? ⟨w.heap.size, 0, none⟩ = some (.int .i64 sA.ins) := by rw [hw1]; first | (simp; done) | go_simp
    have cA11 : w1.cell? ⟨w.heap.size, 1, none⟩ = some (.slice aoA sA.outs.length koA) := by rw [hw1]; first | (simp; done) | go_simp
    have cA21 : w1.cell? ⟨w.heap.size, 2, none⟩ = some (.slice ahA sA.hints.length khA) := by rw [hw1]; first | (simp; done) | go_simp
    have cA31 : w1.cell? ⟨w.heap.size, 3, none⟩ = some (.slice acA sA.cons.length kcA) := by rw [hw1]; first | (simp; done) | go_simp
    have tA1 := hA.keep e1 (by omega)
    have tX1 := hX.keep e1 (by omega)
    clear hw1
    refine (szSys_no false 0 w.heap.size _ _ _ _ sA 1048576 _ tA1 (by omega) (by omega) (by omega) (by omega)).mono ?_; rintro e w2 ⟨rfl, f2⟩
    have b2 := b1.trans (f2.mono (by omega))
    have z2 := f2.size
    have cA02 := cell_keep f2 cA01
    have cA12 := cell_keep f2 cA11
    have cA22 := cell_keep f2 cA21
    have cA32 := cell_keep f2 cA31
    have tA2 := tA1.keep f2 (by omega)
    have tX2 := tX1.keep f2 (by omega)
    clear cA01 cA11 cA21 cA31 tA1 tX1
    go_wp2_with fail
    go_ret
    exact ⟨rfl, b2⟩
  have nS : szLs sA.outs + szHs sA.hints + szCs sA.cons ≤ 1048576 := hlA
  have nO : sA.outs.length ≤ 1048576 := by unfold szLs at nS; omega
  have nH : sA.hints.length ≤ 1048576 := by unfold szHs at nS; omega
  have nC : sA.cons.length ≤ 1048576 := by unfold szCs at nS; omega
  have q0 : 0 ≤ (1048576 : Int) - szLs sA.outs - szHs sA.hints - szCs sA.cons := by omega
  go_enter Try.func6, Try.ntmps6
  go_wp2_with fail
  refine name_call fun w1 hw1 => ?_
  have b1 : Below w.heap.size w w1 := by rw [hw1]; (repeat (first | with_reducible exact Below.refl _ _ | with_reducible assumption | with_reducible refine Below.drew ?_ | with_reducible refine bdrewN ?_ _ | ((with_reducible refine balloc ?_ ?_ _); (focus (first | with_reducible exact Nat.le_refl _ | (simp; done) | omega | (simp; omega) | exact Nat.le_refl _))) | ((with_reducible refine bset ?_ ?_ _); (focus (first | with_reducible exact Nat.le_refl _ | (simp; done) | omega | (simp; omega) | exact Nat.le_refl _)))))
  have z1 : w.heap.size + 1 ≤ w1.heap.size := by rw [hw1]; simp
  have e1 : Below w.heap.size w w1 := by rw [hw1]; (repeat (first | with_reducible exact Below.refl _ _ | with_reducible assumption | with_reducible refine Below.drew ?_ | with_reducible refine bdrewN ?_ _ | ((with_reducible refine balloc ?_ ?_ _); (focus (first | with_reducible exact Nat.le_refl _ | (simp; done) | omega | (simp; omega) | exact Nat.le_refl _))) | ((with_reducible refine bset ?_ ?_ _); (focus (first | with_reducible exact Nat.le_refl _ | (simp; done) | omega | (simp; omega) | exact Nat.le_refl _)))))
  have cA01 : w1.cell? ⟨w.heap.size, 0, none⟩ = some (.int .i64 sA.ins) := by rw [hw1]; first | (simp; done) | go_simp
  have cA11 : w1.cell? ⟨w.heap.size, 1, none⟩ = some (.slice aoA sA.outs.length koA) := by rw [hw1]; first | (simp; done) | go_simp
  have cA21 : w1.cell? ⟨w.heap.size, 2, none⟩ = some (.slice ahA sA.hints.length khA) := by rw [hw1]; first | (simp; done) | go_simp
  have cA31 : w1.cell? ⟨w.heap.size, 3, none⟩ = some (.slice acA sA.cons.length kcA) := by rw [hw1]; first | (simp; done) | go_simp
  have tA1 := hA.keep e1 (by omega)
  have tX1 := hX.keep e1 (by omega)
  clear hw1
  refine (szSys_ok false 0 w.heap.size _ _ _ _ sA 1048576 _ tA1 (by omega) (by omega) (by omega) (by omega)).mono ?_; rintro e w2 ⟨rfl, f2⟩
  have b2 := b1.trans (f2.mono (by omega))
  have z2 := f2.size
  have cA02 := cell_keep f2 cA01
  have cA12 := cell_keep f2 cA11
  have cA22 := cell_keep f2 cA21
  have cA32 := cell_keep f2 cA31
  have tA2 := tA1.keep f2 (by omega)
  have tX2 := tX1.keep f2 (by omega)
  clear cA01 cA11 cA21 cA31 tA1 tX1
  have lcA02 : w.heap.size < w2.heap.size := World.block_lt_of_cell? _ _ cA02
  go_wp2_with fail
  refine name_call fun w3 hw3 => ?_
  have b3 : Below w.heap.size w w3 := by rw [hw3]; (repeat (first | with_reducible exact Below.refl _ _ | with_reducible assumption | with_reducible refine Below.drew ?_ | with_reducible refine bdrewN ?_ _ | ((with_reducible refine balloc ?_ ?_ _); (focus (first | with_reducible exact Nat.le_refl _ | (simp; done) | omega | (simp; omega) | exact Nat.le_refl _))) | ((with_reducible refine bset ?_ ?_ _); (focus (first | with_reducible exact Nat.le_refl _ | (simp; done) | omega | (simp; omega) | exact Nat.le_refl _)))))
  have z3 : w2.heap.size + 0 ≤ w3.heap.size := by rw [hw3]; simp
  have e3 : Below w2.heap.size w2 w3 := by rw [hw3]; (repeat (first | with_reducible exact Below.refl _ _ | with_reducible assumption | with_reducible refine Below.drew ?_ | with_reducible refine bdrewN ?_ _ | ((with_reducible refine balloc ?_ ?_ _); (focus (first | with_reducible exact Nat.le_refl _ | (simp; done) | omega | (simp; omega) | exact Nat.le_refl _))) | ((with_reducible refine bset ?_ ?_ _); (focus (first | with_reducible exact Nat.le_refl _ | (simp; done) | omega | (simp; omega) | exact Nat.le_refl _)))))
  have cA03 := cell_keep e3 cA02
  have cA13 := cell_keep e3 cA12
  have cA23 := cell_keep e3 cA22
  have cA33 := cell_keep e3 cA32
  have tA3 := tA2.keep e3 (by omega)
  have tX3 := tX2.keep e3 (by omega)
  clear hw3 lcA02 cA02 cA12 cA22 cA32 tA2 tX2
  refine (toSys_any false 0 w.heap.size _ _ _ _ sA _ tA3 (by omega) hlA).mono ?_; rintro e w4 ⟨uomA, uhmA, ucmA, rfl, f4, q4⟩
  have b4 := b3.trans (f4.mono (by omega))
  have z4 := f4.size
  have cA04 := cell_keep f4 cA03
  have cA14 := cell_keep f4 cA13
  have cA24 := cell_keep f4 cA23
  have cA34 := cell_keep f4 cA33
  have tA4 := tA3.keep f4 (by omega)
  have tX4 := tX3.keep f4 (by omega)
  clear cA03 cA13 cA23 cA33 tA3 tX3
  obtain ⟨aomA, komA, ahmA, khmA, acmA, kcmA, -, rfl, rfl, rfl, lomA, bomA, lhmA, bhmA, lcmA, bcmA, -⟩ := q4.shape
  have lcA04 : w.heap.size < w4.heap.size := World.block_lt_of_cell? _ _ cA04
  go_wp2_with fail
  refine name_call fun w5 hw5 => ?_
  have b5 : Below w.heap.size w w5 := by rw [hw5]; (repeat (first | with_reducible exact Below.refl _ _ | with_reducible assumption | with_reducible refine Below.drew ?_ | with_reducible refine bdrewN ?_ _ | ((with_reducible refine balloc ?_ ?_ _); (focus (first | with_reducible exact Nat.le_refl _ | (simp; done) | omega | (simp; omega) | exact Nat.le_refl _))) | ((with_reducible refine bset ?_ ?_ _); (focus (first | with_reducible exact Nat.le_refl _ | (simp; done) | omega | (simp; omega) | exact Nat.le_refl _)))))
  have z5 : w4.heap.size + 0 ≤ w5.heap.size := by rw [hw5]; simp
  have e5 : Below w4.heap.size w4 w5 := by rw [hw5]; (repeat (first | with_reducible exact Below.refl _ _ | with_reducible assumption | with_reducible refine Below.drew ?_ | with_reducible refine bdrewN ?_ _ | ((with_reducible refine balloc ?_ ?_ _); (focus (first | with_reducible exact Nat.le_refl _ | (simp; done) | omega | (simp; omega) | exact Nat.le_refl _))) | ((with_reducible refine bset ?_ ?_ _); (focus (first | with_reducible exact Nat.le_refl _ | (simp; done) | omega | (simp; omega) | exact Nat.le_refl _)))))
  have cA05 := cell_keep e5 cA04
  have cA15 := cell_keep e5 cA14
  have cA25 := cell_keep e5 cA24
  have cA35 := cell_keep e5 cA34
  have tA5 := tA4.keep e5 (by omega)
  have tX5 := tX4.keep e5 (by omega)
  have tmA5 := q4.keep e5 (by omega)
  clear hw5 lcA04 cA04 cA14 cA24 cA34 tA4 tX4
  refine (toIntS_any _ _ _ _ tX5 (by omega) (by omega)).mono ?_; rintro e w6 ⟨umX, rfl, f6, q6⟩
  have b6 := b5.trans (f6.mono (by omega))
  have z6 := f6.size
  have cA06 := cell_keep f6 cA05
  have cA16 := cell_keep f6 cA15
  have cA26 := cell_keep f6 cA25
  have cA36 := cell_keep f6 cA35
  have tA6 := tA5.keep f6 (by omega)
  have tX6 := tX5.keep f6 (by omega)
  have tmA6 := tmA5.keep f6 (by omega)
  clear cA05 cA15 cA25 cA35 tA5 tX5 tmA5
  obtain ⟨amX, kmX, rfl, lamX, bamX⟩ := q6.shape
  have lcA06 : w.heap.size < w6.heap.size := World.block_lt_of_cell? _ _ cA06
  go_wp2_with fail
  refine name_call fun w7 hw7 => ?_
  have b7 : Below w.heap.size w w7 := by rw [hw7]; (repeat (first | with_reducible exact Below.refl _ _ | with_reducible assumption | with_reducible refine Below.drew ?_ | with_reducible refine bdrewN ?_ _ | ((with_reducible refine balloc ?_ ?_ _); (focus (first | with_reducible exact Nat.le_refl _ | (simp; done) | omega | (simp; omega) | exact Nat.le_refl _))) | ((with_reducible refine bset ?_ ?_ _); (focus (first | with_reducible exact Nat.le_refl _ | (simp; done) | omega | (simp; omega) | exact Nat.le_refl _)))))
  have z7 : w6.heap.size + 0 ≤ w7.heap.size := by rw [hw7]; simp
  have e7 : Below w6.heap.size w6 w7 := by rw [hw7]; (repeat (first | with_reducible exact Below.refl _ _ | with_reducible assumption | with_reducible refine Below.drew ?_ | with_reducible refine bdrewN ?_ _ | ((with_reducible refine balloc ?_ ?_ _); (focus (first | with_reducible exact Nat.le_refl _ | (simp; done) | omega | (simp; omega) | exact Nat.le_refl _))) | ((with_reducible refine bset ?_ ?_ _); (focus (first | with_reducible exact Nat.le_refl _ | (simp; done) | omega | (simp; omega) | exact Nat.le_refl _)))))
  have cA07 := cell_keep e7 cA06
  have cA17 := cell_keep e7 cA16
  have cA27 := cell_keep e7 cA26
  have cA37 := cell_keep e7 cA36
  have tA7 := tA6.keep e7 (by omega)
  have tX7 := tX6.keep e7 (by omega)
  have tmA7 := tmA6.keep e7 (by omega)
  have tmX7 := q6.keep e7 (by omega)
  clear hw7 lcA06 cA06 cA16 cA26 cA36 tA6 tX6 tmA6
  refine (check_spec _ _ _ _ _ _ _ sA _ _ tsX _ tmA7 (by omega) tmX7 (by omega) hlX nH nO nC).mono ?_; rintro e w8 ⟨rfl, f8⟩
  have b8 := b7.trans (f8.mono (by omega))
  have z8 := f8.size
  have cA08 := cell_keep f8 cA07
  have cA18 := cell_keep f8 cA17
  have cA28 := cell_keep f8 cA27
  have cA38 := cell_keep f8 cA37
  have tA8 := tA7.keep f8 (by omega)
  have tX8 := tX7.keep f8 (by omega)
  have tmA8 := tmA7.keep f8 (by omega)
  have tmX8 := tmX7.keep f8 (by omega)
  clear cA07 cA17 cA27 cA37 tA7 tX7 tmA7 tmX7
  clear tmA8
  clear tmX8
  have lcA08 : w.heap.size < w8.heap.size := World.block_lt_of_cell? _ _ cA08
  go_wp2_with fail
  refine name_call fun w9 hw9 => ?_
  have b9 : Below w.heap.size w w9 := by rw [hw9]; (repeat (first | with_reducible exact Below.refl _ _ | with_reducible assumption | with_reducible refine Below.drew ?_ | with_reducible refine bdrewN ?_ _ | ((with_reducible refine balloc ?_ ?_ _); (focus (first | with_reducible exact Nat.le_refl _ | (simp; done) | omega | (simp; omega) | exact Nat.le_refl _))) | ((with_reducible refine bset ?_ ?_ _); (focus (first | with_reducible exact Nat.le_refl _ | (simp; done) | omega | (simp; omega) | exact Nat.le_refl _)))))
  have z9 : w8.heap.size + 0 ≤ w9.heap.size := by rw [hw9]; simp
  have e9 : Below w8.heap.size w8 w9 := by rw [hw9]; (repeat (first | with_reducible exact Below.refl _ _ | with_reducible assumption | with_reducible refine Below.drew ?_ | with_reducible refine bdrewN ?_ _ | ((with_reducible refine balloc ?_ ?_ _); (focus (first | with_reducible exact Nat.le_refl _ | (simp; done) | omega | (simp; omega) | exact Nat.le_refl _))) | ((with_reducible refine bset ?_ ?_ _); (focus (first | with_reducible exact Nat.le_refl _ | (simp; done) | omega | (simp; omega) | exact Nat.le_refl _)))))
  have cA09 := cell_keep e9 cA08
  have cA19 := cell_keep e9 cA18
  have cA29 := cell_keep e9 cA28
  have cA39 := cell_keep e9 cA38
  have tA9 := tA8.keep e9 (by omega)
  have tX9 := tX8.keep e9 (by omega)
  clear hw9 lcA08 cA08 cA18 cA28 cA38 tA8 tX8
  refine (toSys_any false 0 w.heap.size _ _ _ _ sA _ tA9 (by omega) hlA).mono ?_; rintro e w10 ⟨uoxA, uhxA, ucxA, rfl, f10, q10⟩
  have b10 := b9.trans (f10.mono (by omega))
  have z10 := f10.size
  have cA010 := cell_keep f10 cA09
  have cA110 := cell_keep f10 cA19
  have cA210 := cell_keep f10 cA29
  have cA310 := cell_keep f10 cA39
  have tA10 := tA9.keep f10 (by omega)
  have tX10 := tX9.keep f10 (by omega)
  clear cA09 cA19 cA29 cA39 tA9 tX9
  obtain ⟨aoxA, koxA, ahxA, khxA, acxA, kcxA, -, rfl, rfl, rfl, loxA, boxA, lhxA, bhxA, lcxA, bcxA, -⟩ := q10.shape
  have lcA010 : w.heap.size < w10.heap.size := World.block_lt_of_cell? _ _ cA010
  go_wp2_with fail
  refine name_call fun w11 hw11 => ?_
  have b11 : Below w.heap.size w w11 := by rw [hw11]; (repeat (first | with_reducible exact Below.refl _ _ | with_reducible assumption | with_reducible refine Below.drew ?_ | with_reducible refine bdrewN ?_ _ | ((with_reducible refine balloc ?_ ?_ _); (focus (first | with_reducible exact Nat.le_refl _ | (simp; done) | omega | (simp; omega) | exact Nat.le_refl _))) | ((with_reducible refine bset ?_ ?_ _); (focus (first | with_reducible exact Nat.le_refl _ | (simp; done) | omega | (simp; omega) | exact Nat.le_refl _)))))
  have z11 : w10.heap.size + 1 ≤ w11.heap.size := by rw [hw11]; simp
  have e11 : Below w10.heap.size w10 w11 := by rw [hw11]; (repeat (first | with_reducible exact Below.refl _ _ | with_reducible assumption | with_reducible refine Below.drew ?_ | with_reducible refine bdrewN ?_ _ | ((with_reducible refine balloc ?_ ?_ _); (focus (first | with_reducible exact Nat.le_refl _ | (simp; done) | omega | (simp; omega) | exact Nat.le_refl _))) | ((with_reducible refine bset ?_ ?_ _); (focus (first | with_reducible exact Nat.le_refl _ | (simp; done) | omega | (simp; omega) | exact Nat.le_refl _)))))
  have cA011 := cell_keep e11 cA010
  have cA111 := cell_keep e11 cA110
  have cA211 := cell_keep e11 cA210
  have cA311 := cell_keep e11 cA310
  have cxA011 : w11.cell? ⟨w10.heap.size, 0, none⟩ = some (.int .i64 sA.ins) := by rw [hw11]; first | (simp; done) | go_simp
  have cxA111 : w11.cell? ⟨w10.heap.size, 1, none⟩ = some (.slice aoxA sA.outs.length koxA) := by rw [hw11]; first | (simp; done) | go_simp
  have cxA211 : w11.cell? ⟨w10.heap.size, 2, none⟩ = some (.slice ahxA sA.hints.length khxA) := by rw [hw11]; first | (simp; done) | go_simp
  have cxA311 : w11.cell? ⟨w10.heap.size, 3, none⟩ = some (.slice acxA sA.cons.length kcxA) := by rw [hw11]; first | (simp; done) | go_simp
  have tA11 := tA10.keep e11 (by omega)
  have tX11 := tX10.keep e11 (by omega)
  have txA11 := q10.keep e11 (by omega)
  clear hw11 lcA010 cA010 cA110 cA210 cA310 tA10 tX10
  refine (toIntS_any _ _ _ _ tX11 (by omega) (by omega)).mono ?_; rintro e w12 ⟨uxX, rfl, f12, q12⟩
  have b12 := b11.trans (f12.mono (by omega))
  have z12 := f12.size
  have cA012 := cell_keep f12 cA011
  have cA112 := cell_keep f12 cA111
  have cA212 := cell_keep f12 cA211
  have cA312 := cell_keep f12 cA311
  have cxA012 := cell_keep f12 cxA011
  have cxA112 := cell_keep f12 cxA111
  have cxA212 := cell_keep f12 cxA211
  have cxA312 := cell_keep f12 cxA311
  have tA12 := tA11.keep f12 (by omega)
  have tX12 := tX11.keep f12 (by omega)
  have txA12 := txA11.keep f12 (by omega)
  clear cA011 cA111 cA211 cA311 cxA011 cxA111 cxA211 cxA311 tA11 tX11 txA11
  obtain ⟨axX, kxX, rfl, laxX, baxX⟩ := q12.shape
  have lcA012 : w.heap.size < w12.heap.size := World.block_lt_of_cell? _ _ cA012
  have lcxA012 : w10.heap.size < w12.heap.size := World.block_lt_of_cell? _ _ cxA012
  go_wp2_with fail
  refine name_call fun w13 hw13 => ?_
  have b13 : Below w.heap.size w w13 := by rw [hw13]; (repeat (first | with_reducible exact Below.refl _ _ | with_reducible assumption | with_reducible refine Below.drew ?_ | with_reducible refine bdrewN ?_ _ | ((with_reducible refine balloc ?_ ?_ _); (focus (first | with_reducible exact Nat.le_refl _ | (simp; done) | omega | (simp; omega) | exact Nat.le_refl _))) | ((with_reducible refine bset ?_ ?_ _); (focus (first | with_reducible exact Nat.le_refl _ | (simp; done) | omega | (simp; omega) | exact Nat.le_refl _)))))
  have z13 : w12.heap.size + 0 ≤ w13.heap.size := by rw [hw13]; simp
  have e13 : Below w12.heap.size w12 w13 := by rw [hw13]; (repeat (first | with_reducible exact Below.refl _ _ | with_reducible assumption | with_reducible refine Below.drew ?_ | with_reducible refine bdrewN ?_ _ | ((with_reducible refine balloc ?_ ?_ _); (focus (first | with_reducible exact Nat.le_refl _ | (simp; done) | omega | (simp; omega) | exact Nat.le_refl _))) | ((with_reducible refine bset ?_ ?_ _); (focus (first | with_reducible exact Nat.le_refl _ | (simp; done) | omega | (simp; omega) | exact Nat.le_refl _)))))
  have cA013 := cell_keep e13 cA012
  have cA113 := cell_keep e13 cA112
  have cA213 := cell_keep e13 cA212
  have cA313 := cell_keep e13 cA312
  have cxA013 := cell_keep e13 cxA012
  have cxA113 := cell_keep e13 cxA112
  have cxA213 := cell_keep e13 cxA212
  have cxA313 := cell_keep e13 cxA312
  have tA13 := tA12.keep e13 (by omega)
  have tX13 := tX12.keep e13 (by omega)
  have txA13 := txA12.keep e13 (by omega)
  have txX13 := q12.keep e13 (by omega)
  clear hw13 lcA012 lcxA012 cA012 cA112 cA212 cA312 cxA012 cxA112 cxA212 cxA312 tA12 tX12 txA12
  refine (check_impl _ _ _ _ _ _ _ sA _ _ tsX _ txA13 (by omega) txX13 (by omega) hlX nH nO nC).mono ?_; rintro e w14 ⟨rfl, f14⟩
  have b14 := b13.trans (f14.mono (by omega))
  have z14 := f14.size
  have cA014 := cell_keep f14 cA013
  have cA114 := cell_keep f14 cA113
  have cA214 := cell_keep f14 cA213
  have cA314 := cell_keep f14 cA313
  have cxA014 := cell_keep f14 cxA013
  have cxA114 := cell_keep f14 cxA113
  have cxA214 := cell_keep f14 cxA213
  have cxA314 := cell_keep f14 cxA313
  have tA14 := tA13.keep f14 (by omega)
  have tX14 := tX13.keep f14 (by omega)
  have txA14 := txA13.keep f14 (by omega)
  have txX14 := txX13.keep f14 (by omega)
  clear cA013 cA113 cA213 cA313 cxA013 cxA113 cxA213 cxA313 tA13 tX13 txA13 txX13
  have lcA014 : w.heap.size < w14.heap.size := World.block_lt_of_cell? _ _ cA014
  have lcxA014 : w10.heap.size < w14.heap.size := World.block_lt_of_cell? _ _ cxA014
  go_wp2_with fail
  refine name_wp fun w15 hw15 => ?_
  have b15 : Below w.heap.size w w15 := by rw [hw15]; (repeat (first | with_reducible exact Below.refl _ _ | with_reducible assumption | with_reducible refine Below.drew ?_ | with_reducible refine bdrewN ?_ _ | ((with_reducible refine balloc ?_ ?_ _); (focus (first | with_reducible exact Nat.le_refl _ | (simp; done) | omega | (simp; omega) | exact Nat.le_refl _))) | ((with_reducible refine bset ?_ ?_ _); (focus (first | with_reducible exact Nat.le_refl _ | (simp; done) | omega | (simp; omega) | exact Nat.le_refl _)))))
  have z15 : w14.heap.size + 0 ≤ w15.heap.size := by rw [hw15]; simp
  have e15 : Below w14.heap.size w14 w15 := by rw [hw15]; (repeat (first | with_reducible exact Below.refl _ _ | with_reducible assumption | with_reducible refine Below.drew ?_ | with_reducible refine bdrewN ?_ _ | ((with_reducible refine balloc ?_ ?_ _); (focus (first | with_reducible exact Nat.le_refl _ | (simp; done) | omega | (simp; omega) | exact Nat.le_refl _))) | ((with_reducible refine bset ?_ ?_ _); (focus (first | with_reducible exact Nat.le_refl _ | (simp; done) | omega | (simp; omega) | exact Nat.le_refl _)))))
  have cA015 := cell_keep e15 cA014
  have cA115 := cell_keep e15 cA114
  have cA215 := cell_keep e15 cA214
  have cA315 := cell_keep e15 cA314
  have cxA015 := cell_keep e15 cxA014
  have cxA115 := cell_keep e15 cxA114
  have cxA215 := cell_keep e15 cxA214
  have cxA315 := cell_keep e15 cxA314
  have tA15 := tA14.keep e15 (by omega)
  have tX15 := tX14.keep e15 (by omega)
  have txA15 := txA14.keep e15 (by omega)
  have txX15 := txX14.keep e15 (by omega)
  clear hw15 lcA014 lcxA014 cA014 cA114 cA214 cA314 cxA014 cxA114 cxA214 cxA314 tA14 tX14 txA14 txX14
  have d15 : Below w15.heap.size w15 w15.drew := (Below.refl _ _).drew
  have zd15 : w15.heap.size ≤ w15.drew.heap.size := Nat.le_refl _
  have ze15 : w15.drew.heap.size ≤ w15.heap.size := Nat.le_refl _
  have GxA0 : w15.drew.cell? ⟨w10.heap.size, 0, none⟩ = some (.int .i64 sA.ins) := cell_keep d15 cxA015
  have GxA1 : w15.drew.cell? ⟨w10.heap.size, 1, none⟩ = some (.slice aoxA sA.outs.length koxA) := cell_keep d15 cxA115
  have GxA2 : w15.drew.cell? ⟨w10.heap.size, 2, none⟩ = some (.slice ahxA sA.hints.length khxA) := cell_keep d15 cxA215
  have GxA3 : w15.drew.cell? ⟨w10.heap.size, 3, none⟩ = some (.slice acxA sA.cons.length kcxA) := cell_keep d15 cxA315
  have GA0 : w15.drew.cell? ⟨w.heap.size, 0, none⟩ = some (.int .i64 sA.ins) := cell_keep d15 cA015
  have GA1 : w15.drew.cell? ⟨w.heap.size, 1, none⟩ = some (.slice aoA sA.outs.length koA) := cell_keep d15 cA115
  have GA2 : w15.drew.cell? ⟨w.heap.size, 2, none⟩ = some (.slice ahA sA.hints.length khA) := cell_keep d15 cA215
  have GA3 : w15.drew.cell? ⟨w.heap.size, 3, none⟩ = some (.slice acA sA.cons.length kcA) := cell_keep d15 cA315
  have UA := tA15.keep d15 (by omega)
  have UxA := txA15.keep d15 (by omega)
  go_region_held3 (fun w' => w'.cell? ⟨w10.heap.size, 0, none⟩ = some (.int .i64 sA.ins) ∧ w'.cell? ⟨w10.heap.size, 1, none⟩ = some (.slice aoxA sA.outs.length koxA) ∧ w'.cell? ⟨w10.heap.size, 2, none⟩ = some (.slice ahxA sA.hints.length khxA) ∧ w'.cell? ⟨w10.heap.size, 3, none⟩ = some (.slice acxA sA.cons.length kcxA) ∧ w'.cell? ⟨w.heap.size, 0, none⟩ = some (.int .i64 sA.ins) ∧ w'.cell? ⟨w.heap.size, 1, none⟩ = some (.slice aoA sA.outs.length koA) ∧ w'.cell? ⟨w.heap.size, 2, none⟩ = some (.slice ahA sA.hints.length khA) ∧ w'.cell? ⟨w.heap.size, 3, none⟩ = some (.slice acA sA.cons.length kcA)) (first | exact ⟨GxA0, GxA1, GxA2, GxA3, GA0, GA1, GA2, GA3⟩ | exact ⟨cell_keep j1 GxA0, cell_keep j1 GxA1, cell_keep j1 GxA2, cell_keep j1 GxA3, cell_keep j1 GA0, cell_keep j1 GA1, cell_keep j1 GA2, cell_keep j1 GA3⟩ | exact ⟨cell_keep j2 (cell_keep j1 GxA0), cell_keep j2 (cell_keep j1 GxA1), cell_keep j2 (cell_keep j1 GxA2), cell_keep j2 (cell_keep j1 GxA3), cell_keep j2 (cell_keep j1 GA0), cell_keep j2 (cell_keep j1 GA1), cell_keep j2 (cell_keep j1 GA2), cell_keep j2 (cell_keep j1 GA3)⟩)
    (first
      | (go_at_call 16; refine (toSys_any false 0 w.heap.size _ _ _ _ sA w15.drew UA (by omega) hlA).mono ?_; rintro e v1 ⟨uo1, uh1, uc1, rfl, j1, q1⟩; obtain ⟨ao1, ko1, ah1, kh1, ac1, kc1, -, rfl, rfl, rfl, lo1, bo1, lh1, bh1, lc1, bc1, -⟩ := q1.shape; have s1 := j1.size)
      | (go_at_call 18; refine (eqSys_same _ _ _ _ _ _ _ _ _ _ _ _ _ _ sA v1 (UxA.keep j1 (by omega)) q1 (by omega) (Nat.le_refl _)).mono ?_; rintro e v2 ⟨rfl, j2⟩))
  have s2 := j2.size
  have f16 : Below w15.heap.size w15 v2 := (d15.trans (j1.mono (by omega))).trans (j2.mono (by omega))
  have b16 := b15.trans (f16.mono (by omega))
  have z16 := f16.size
  have cA016 := cell_keep f16 cA015
  have cA116 := cell_keep f16 cA115
  have cA216 := cell_keep f16 cA215
  have cA316 := cell_keep f16 cA315
  have cxA016 := cell_keep f16 cxA015
  have cxA116 := cell_keep f16 cxA115
  have cxA216 := cell_keep f16 cxA215
  have cxA316 := cell_keep f16 cxA315
  have tA16 := tA15.keep f16 (by omega)
  have tX16 := tX15.keep f16 (by omega)
  have txA16 := txA15.keep f16 (by omega)
  have txX16 := txX15.keep f16 (by omega)
  clear cA015 cA115 cA215 cA315 cxA015 cxA115 cxA215 cxA315 tA15 tX15 txA15 txX15 GxA0 GxA1 GxA2 GxA3 GA0 GA1 GA2 GA3 UA UxA
  have lcA016 : w.heap.size < v2.heap.size := World.block_lt_of_cell? _ _ cA016
  have lcxA016 : w10.heap.size < v2.heap.size := World.block_lt_of_cell? _ _ cxA016
  go_wp2_with fail
  refine name_call fun w17 hw17 => ?_
  have b17 : Below w.heap.size w w17 := by rw [hw17]; (repeat (first | with_reducible exact Below.refl _ _ | with_reducible assumption | with_reducible refine Below.drew ?_ | with_reducible refine bdrewN ?_ _ | ((with_reducible refine balloc ?_ ?_ _); (focus (first | with_reducible exact Nat.le_refl _ | (simp; done) | omega | (simp; omega) | exact Nat.le_refl _))) | ((with_reducible refine bset ?_ ?_ _); (focus (first | with_reducible exact Nat.le_refl _ | (simp; done) | omega | (simp; omega) | exact Nat.le_refl _)))))
  have z17 : v2.heap.size + 0 ≤ w17.heap.size := by rw [hw17]; simp
  have e17 : Below v2.heap.size v2 w17 := by rw [hw17]; (repeat (first | with_reducible exact Below.refl _ _ | with_reducible assumption | with_reducible refine Below.drew ?_ | with_reducible refine bdrewN ?_ _ | ((with_reducible refine balloc ?_ ?_ _); (focus (first | with_reducible exact Nat.le_refl _ | (simp; done) | omega | (simp; omega) | exact Nat.le_refl _))) | ((with_reducible refine bset ?_ ?_ _); (focus (first | with_reducible exact Nat.le_refl _ | (simp; done) | omega | (simp; omega) | exact Nat.le_refl _)))))
  have cA017 := cell_keep e17 cA016
  have cA117 := cell_keep e17 cA116
  have cA217 := cell_keep e17 cA216
  have cA317 := cell_keep e17 cA316
  have cxA017 := cell_keep e17 cxA016
  have cxA117 := cell_keep e17 cxA116
  have cxA217 := cell_keep e17 cxA216
  have cxA317 := cell_keep e17 cxA316
  have tA17 := tA16.keep e17 (by omega)
  have tX17 := tX16.keep e17 (by omega)
  have txA17 := txA16.keep e17 (by omega)
  have txX17 := txX16.keep e17 (by omega)
  clear hw17 lcA016 lcxA016 cA016 cA116 cA216 cA316 cxA016 cxA116 cxA216 cxA316 tA16 tX16 txA16 txX16
  refine (toIntS_any _ _ _ _ tX17 (by omega) (by omega)).mono ?_; rintro e w18 ⟨uyX, rfl, f18, q18⟩
  have b18 := b17.trans (f18.mono (by omega))
  have z18 := f18.size
  have cA018 := cell_keep f18 cA017
  have cA118 := cell_keep f18 cA117
  have cA218 := cell_keep f18 cA217
  have cA318 := cell_keep f18 cA317
  have cxA018 := cell_keep f18 cxA017
  have cxA118 := cell_keep f18 cxA117
  have cxA218 := cell_keep f18 cxA217
  have cxA318 := cell_keep f18 cxA317
  have tA18 := tA17.keep f18 (by omega)
  have tX18 := tX17.keep f18 (by omega)
  have txA18 := txA17.keep f18 (by omega)
  have txX18 := txX17.keep f18 (by omega)
  clear cA017 cA117 cA217 cA317 cxA017 cxA117 cxA217 cxA317 tA17 tX17 txA17 txX17
  obtain ⟨ayX, kyX, rfl, layX, bayX⟩ := q18.shape
  have lcA018 : w.heap.size < w18.heap.size := World.block_lt_of_cell? _ _ cA018
  have lcxA018 : w10.heap.size < w18.heap.size := World.block_lt_of_cell? _ _ cxA018
  go_wp2_with fail
  refine name_call fun w19 hw19 => ?_
  have b19 : Below w.heap.size w w19 := by rw [hw19]; (repeat (first | with_reducible exact Below.refl _ _ | with_reducible assumption | with_reducible refine Below.drew ?_ | with_reducible refine bdrewN ?_ _ | ((with_reducible refine balloc ?_ ?_ _); (focus (first | with_reducible exact Nat.le_refl _ | (simp; done) | omega | (simp; omega) | exact Nat.le_refl _))) | ((with_reducible refine bset ?_ ?_ _); (focus (first | with_reducible exact Nat.le_refl _ | (simp; done) | omega | (simp; omega) | exact Nat.le_refl _)))))
  have z19 : w18.heap.size + 0 ≤ w19.heap.size := by rw [hw19]; simp
  have e19 : Below w18.heap.size w18 w19 := by rw [hw19]; (repeat (first | with_reducible exact Below.refl _ _ | with_reducible assumption | with_reducible refine Below.drew ?_ | with_reducible refine bdrewN ?_ _ | ((with_reducible refine balloc ?_ ?_ _); (focus (first | with_reducible exact Nat.le_refl _ | (simp; done) | omega | (simp; omega) | exact Nat.le_refl _))) | ((with_reducible refine bset ?_ ?_ _); (focus (first | with_reducible exact Nat.le_refl _ | (simp; done) | omega | (simp; omega) | exact Nat.le_refl _)))))
  have cA019 := cell_keep e19 cA018
  have cA119 := cell_keep e19 cA118
  have cA219 := cell_keep e19 cA218
  have cA319 := cell_keep e19 cA318
  have cxA019 := cell_keep e19 cxA018
  have cxA119 := cell_keep e19 cxA118
  have cxA219 := cell_keep e19 cxA218
  have cxA319 := cell_keep e19 cxA318
  have tA19 := tA18.keep e19 (by omega)
  have tX19 := tX18.keep e19 (by omega)
  have txA19 := txA18.keep e19 (by omega)
  have txX19 := txX18.keep e19 (by omega)
  have tyX19 := q18.keep e19 (by omega)
  clear hw19 lcA018 lcxA018 cA018 cA118 cA218 cA318 cxA018 cxA118 cxA218 cxA318 tA18 tX18 txA18 txX18
  refine (eqInts_any _ _ _ _ _ _ _ txX19 tyX19 (by omega) (by omega)).mono ?_; rw [dec_self]; rintro e w20 ⟨rfl, f20⟩
  have b20 := b19.trans (f20.mono (by omega))
  have z20 := f20.size
  have cA020 := cell_keep f20 cA019
  have cA120 := cell_keep f20 cA119
  have cA220 := cell_keep f20 cA219
  have cA320 := cell_keep f20 cA319
  have cxA020 := cell_keep f20 cxA019
  have cxA120 := cell_keep f20 cxA119
  have cxA220 := cell_keep f20 cxA219
  have cxA320 := cell_keep f20 cxA319
  have tA20 := tA19.keep f20 (by omega)
  have tX20 := tX19.keep f20 (by omega)
  have txA20 := txA19.keep f20 (by omega)
  have txX20 := txX19.keep f20 (by omega)
  have tyX20 := tyX19.keep f20 (by omega)
  clear cA019 cA119 cA219 cA319 cxA019 cxA119 cxA219 cxA319 tA19 tX19 txA19 txX19 tyX19
  clear tyX20
  go_wp2_with fail
  go_ret
  exact ⟨rfl, b20⟩
end Go.Proofs.Ytaohghgdjnkgdaa.L
