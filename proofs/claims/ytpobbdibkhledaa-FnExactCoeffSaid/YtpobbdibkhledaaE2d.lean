/- Exact laws of layer 2 (written by tools/genexact.py): the program's function and its model return the same, write into no argument, and own what they return. -/
import Derived.Test.YtpobbdibkhledaaCoeff
namespace Go.Proofs.Ytpobbdibkhledaa.L
open Go.RowKit Go.Proofs.Ytpobbdibkhledaa.S
set_option linter.unusedVariables false
set_option linter.unusedSimpArgs false

set_option maxRecDepth 100000 in
set_option maxHeartbeats 6400000 in
theorem law_FnExactCoeff (vA : Value) (tsA : List T) (v : Int) (w : World) (hA : Terms false 0 w.heap.size w vA tsA) (v0 : -9223372036854775808 ≤ v) (v1 : v ≤ 9223372036854775807) :
    Calls Try.prog 15 #[.agg #[vA], .int .i64 v] w fun e w' => e = .returned (.bool true) ∧ Below w.heap.size w w' := by
  obtain ⟨aA, kA, rfl, laA, baA⟩ := hA.shape
  by_cases hlA : tsA.length ≤ 1048576
  case' neg =>
    have SA := szLin_any false 0 w.heap.size (.slice aA tsA.length kA) tsA (((1048576 : Nat)) : Int)
    rw [if_pos (by omega)] at SA
    have SZA := Lib.hid SA; clear SA
    go_enter Try.func15, Try.ntmps15
    go_wp2_with fail
    refine name_call fun w1 hw1 => ?_
    have b1 : Below w.heap.size w w1 := by rw [hw1]; (repeat (first | exact Below.refl _ _ | assumption | refine Below.drew ?_ | refine bdrewN ?_ _ | refine Below.alloc ?_ (by first | exact Nat.le_refl _ | (simp; done) | omega | (simp; omega)) _ | refine Below.setCell ?_ (by first | exact Nat.le_refl _ | (simp; done) | omega | (simp; omega)) _))
    have z1 : w.heap.size + 1 ≤ w1.heap.size := by rw [hw1]; simp
    have cBA1 : w1.cell? ⟨w.heap.size, 0, none⟩ = some (.slice aA tsA.length kA) := by rw [hw1]; simp
    have tA1 := hA.keep b1 (Nat.le_refl _)
    clear hw1
    refine (SZA.out _ tA1 (by omega) (by omega) (by omega)).mono ?_; rintro e w2 ⟨rfl, f2⟩
    have b2 := b1.trans (f2.mono (by omega))
    have z2 := f2.size
    have cBA2 := cell_keep f2 cBA1
    have tA2 := tA1.keep f2 (by omega)
    clear cBA1 tA1
    go_wp2_with fail
    go_ret
    exact ⟨rfl, by (repeat (first | exact Below.refl _ _ | assumption | refine Below.drew ?_ | refine bdrewN ?_ _ | refine Below.alloc ?_ (by first | exact Nat.le_refl _ | (simp; done) | omega | (simp; omega)) _ | refine Below.setCell ?_ (by first | exact Nat.le_refl _ | (simp; done) | omega | (simp; omega)) _))⟩
  have SA := szLin_any false 0 w.heap.size (.slice aA tsA.length kA) tsA (((1048576 : Nat)) : Int)
  rw [if_neg (by omega)] at SA
  rw [show (((1048576 : Nat)) : Int) - tsA.length = (((1048576 - tsA.length : Nat)) : Int) from by omega] at SA
  have SZA := Lib.hid SA; clear SA
  go_enter Try.func15, Try.ntmps15
  go_wp2_with fail
  refine name_call fun w1 hw1 => ?_
  have b1 : Below w.heap.size w w1 := by rw [hw1]; (repeat (first | exact Below.refl _ _ | assumption | refine Below.drew ?_ | refine bdrewN ?_ _ | refine Below.alloc ?_ (by first | exact Nat.le_refl _ | (simp; done) | omega | (simp; omega)) _ | refine Below.setCell ?_ (by first | exact Nat.le_refl _ | (simp; done) | omega | (simp; omega)) _))
  have z1 : w.heap.size + 1 ≤ w1.heap.size := by rw [hw1]; simp
  have cBA1 : w1.cell? ⟨w.heap.size, 0, none⟩ = some (.slice aA tsA.length kA) := by rw [hw1]; simp
  have tA1 := hA.keep b1 (Nat.le_refl _)
  clear hw1
  refine (SZA.out _ tA1 (by omega) (by omega) (by omega)).mono ?_; rintro e w2 ⟨rfl, f2⟩
  have b2 := b1.trans (f2.mono (by omega))
  have z2 := f2.size
  have cBA2 := cell_keep f2 cBA1
  have tA2 := tA1.keep f2 (by omega)
  clear cBA1 tA1
  go_wp2_with fail
  refine name_call fun w3 hw3 => ?_
  have b3 : Below w.heap.size w w3 := by rw [hw3]; (repeat (first | exact Below.refl _ _ | assumption | refine Below.drew ?_ | refine bdrewN ?_ _ | refine Below.alloc ?_ (by first | exact Nat.le_refl _ | (simp; done) | omega | (simp; omega)) _ | refine Below.setCell ?_ (by first | exact Nat.le_refl _ | (simp; done) | omega | (simp; omega)) _))
  have z3 : w2.heap.size + 0 ≤ w3.heap.size := by rw [hw3]; simp
  have cBA3 : w3.cell? ⟨w.heap.size, 0, none⟩ = some (.slice aA tsA.length kA) := by rw [hw3]; first | exact cBA2 | exact cBA2
  have tA3 := tA2.keep (show Below w2.heap.size w2 w3 by rw [hw3]; (repeat (first | exact Below.refl _ _ | assumption | refine Below.drew ?_ | refine bdrewN ?_ _ | refine Below.alloc ?_ (by first | exact Nat.le_refl _ | (simp; done) | omega | (simp; omega)) _ | refine Below.setCell ?_ (by first | exact Nat.le_refl _ | (simp; done) | omega | (simp; omega)) _))) (by omega)
  clear hw3
  clear cBA2 tA2
  refine (toLin_any _ _ _ _ _ _ tA3 (by omega) (by omega)).mono ?_; rintro e w4 ⟨u4, rfl, f4, tq4⟩
  have b4 := b3.trans (f4.mono (by omega))
  have z4 := f4.size
  have cBA4 := cell_keep f4 cBA3
  have tA4 := tA3.keep f4 (by omega)
  clear cBA3 tA3
  have tmA4 := tq4; clear tq4
  obtain ⟨amA, kmA, rfl, lamA, bamA⟩ := tmA4.shape
  go_wp2_with fail
  refine name_call fun w5 hw5 => ?_
  have b5 : Below w.heap.size w w5 := by rw [hw5]; (repeat (first | exact Below.refl _ _ | assumption | refine Below.drew ?_ | refine bdrewN ?_ _ | refine Below.alloc ?_ (by first | exact Nat.le_refl _ | (simp; done) | omega | (simp; omega)) _ | refine Below.setCell ?_ (by first | exact Nat.le_refl _ | (simp; done) | omega | (simp; omega)) _))
  have z5 : w4.heap.size + 0 ≤ w5.heap.size := by rw [hw5]; simp
  have cBA5 : w5.cell? ⟨w.heap.size, 0, none⟩ = some (.slice aA tsA.length kA) := by rw [hw5]; first | exact cBA4 | exact cBA4
  have tA5 := tA4.keep (show Below w4.heap.size w4 w5 by rw [hw5]; (repeat (first | exact Below.refl _ _ | assumption | refine Below.drew ?_ | refine bdrewN ?_ _ | refine Below.alloc ?_ (by first | exact Nat.le_refl _ | (simp; done) | omega | (simp; omega)) _ | refine Below.setCell ?_ (by first | exact Nat.le_refl _ | (simp; done) | omega | (simp; omega)) _))) (by omega)
  have tmA5 := tmA4.keep (show Below w4.heap.size w4 w5 by rw [hw5]; (repeat (first | exact Below.refl _ _ | assumption | refine Below.drew ?_ | refine bdrewN ?_ _ | refine Below.alloc ?_ (by first | exact Nat.le_refl _ | (simp; done) | omega | (simp; omega)) _ | refine Below.setCell ?_ (by first | exact Nat.le_refl _ | (simp; done) | omega | (simp; omega)) _))) (by omega)
  clear hw5
  clear cBA4 tA4 tmA4
  refine (coeff_spec _ _ _ _ _ v _ tmA5 (by omega) ).mono ?_; rintro e w6 ⟨rfl, f6⟩
  have b6 := b5.trans (f6.mono (by omega))
  have z6 := f6.size
  have cBA6 := cell_keep f6 cBA5
  have tA6 := tA5.keep f6 (by omega)
  have tmA6 := tmA5.keep f6 (by omega)
  clear cBA5 tA5 tmA5
  clear tmA6
  go_wp2_with fail
  refine name_call fun w7 hw7 => ?_
  have b7 : Below w.heap.size w w7 := by rw [hw7]; (repeat (first | exact Below.refl _ _ | assumption | refine Below.drew ?_ | refine bdrewN ?_ _ | refine Below.alloc ?_ (by first | exact Nat.le_refl _ | (simp; done) | omega | (simp; omega)) _ | refine Below.setCell ?_ (by first | exact Nat.le_refl _ | (simp; done) | omega | (simp; omega)) _))
  have z7 : w6.heap.size + 0 ≤ w7.heap.size := by rw [hw7]; simp
  have cBA7 : w7.cell? ⟨w.heap.size, 0, none⟩ = some (.slice aA tsA.length kA) := by rw [hw7]; first | exact cBA6 | exact cBA6
  have tA7 := tA6.keep (show Below w6.heap.size w6 w7 by rw [hw7]; (repeat (first | exact Below.refl _ _ | assumption | refine Below.drew ?_ | refine bdrewN ?_ _ | refine Below.alloc ?_ (by first | exact Nat.le_refl _ | (simp; done) | omega | (simp; omega)) _ | refine Below.setCell ?_ (by first | exact Nat.le_refl _ | (simp; done) | omega | (simp; omega)) _))) (by omega)
  clear hw7
  clear cBA6 tA6
  refine (toLin_any _ _ _ _ _ _ tA7 (by omega) (by omega)).mono ?_; rintro e w8 ⟨u8, rfl, f8, tq8⟩
  have b8 := b7.trans (f8.mono (by omega))
  have z8 := f8.size
  have cBA8 := cell_keep f8 cBA7
  have tA8 := tA7.keep f8 (by omega)
  clear cBA7 tA7
  have txA8 := tq8; clear tq8
  obtain ⟨axA, kxA, rfl, laxA, baxA⟩ := txA8.shape
  have lBA8 : w.heap.size < w8.heap.size := by omega
  go_wp2_with fail
  refine name_call fun w9 hw9 => ?_
  clear lBA8
  have b9 : Below w.heap.size w w9 := by rw [hw9]; (repeat (first | exact Below.refl _ _ | assumption | refine Below.drew ?_ | refine bdrewN ?_ _ | refine Below.alloc ?_ (by first | exact Nat.le_refl _ | (simp; done) | omega | (simp; omega)) _ | refine Below.setCell ?_ (by first | exact Nat.le_refl _ | (simp; done) | omega | (simp; omega)) _))
  have z9 : w8.heap.size + 1 ≤ w9.heap.size := by rw [hw9]; simp
  have cBA9 : w9.cell? ⟨w.heap.size, 0, none⟩ = some (.slice aA tsA.length kA) := by rw [hw9]; first | exact cBA8 | exact alloc_keep (cBA8)
  have cXA9 : w9.cell? ⟨w8.heap.size, 0, none⟩ = some (.slice axA (tsA).length kxA) := by rw [hw9]; simp
  have tA9 := tA8.keep (show Below w8.heap.size w8 w9 by rw [hw9]; (repeat (first | exact Below.refl _ _ | assumption | refine Below.drew ?_ | refine bdrewN ?_ _ | refine Below.alloc ?_ (by first | exact Nat.le_refl _ | (simp; done) | omega | (simp; omega)) _ | refine Below.setCell ?_ (by first | exact Nat.le_refl _ | (simp; done) | omega | (simp; omega)) _))) (by omega)
  have txA9 := txA8.keep (show Below w8.heap.size w8 w9 by rw [hw9]; (repeat (first | exact Below.refl _ _ | assumption | refine Below.drew ?_ | refine bdrewN ?_ _ | refine Below.alloc ?_ (by first | exact Nat.le_refl _ | (simp; done) | omega | (simp; omega)) _ | refine Below.setCell ?_ (by first | exact Nat.le_refl _ | (simp; done) | omega | (simp; omega)) _))) (by omega)
  clear hw9
  clear cBA8 tA8 txA8
  refine (coeff_impl _ _ _ _ _ v _ txA9 (by omega) ).mono ?_; rintro e w10 ⟨rfl, f10⟩
  have b10 := b9.trans (f10.mono (by omega))
  have z10 := f10.size
  have cBA10 := cell_keep f10 cBA9
  have cXA10 := cell_keep f10 cXA9
  have tA10 := tA9.keep f10 (by omega)
  have txA10 := txA9.keep f10 (by omega)
  clear cBA9 cXA9 tA9 txA9
  go_wp2_with fail
  refine name_wp fun w11 hw11 => ?_
  have b11 : Below w.heap.size w w11 := by rw [hw11]; (repeat (first | exact Below.refl _ _ | assumption | refine Below.drew ?_ | refine bdrewN ?_ _ | refine Below.alloc ?_ (by first | exact Nat.le_refl _ | (simp; done) | omega | (simp; omega)) _ | refine Below.setCell ?_ (by first | exact Nat.le_refl _ | (simp; done) | omega | (simp; omega)) _))
  have z11 : w10.heap.size + 0 ≤ w11.heap.size := by rw [hw11]; simp
  have cBA11 : w11.cell? ⟨w.heap.size, 0, none⟩ = some (.slice aA tsA.length kA) := by rw [hw11]; first | exact cBA10 | exact cBA10
  have cXA11 : w11.cell? ⟨w8.heap.size, 0, none⟩ = some (.slice axA (tsA).length kxA) := by rw [hw11]; first | exact cXA10 | exact cXA10
  have tA11 := tA10.keep (show Below w10.heap.size w10 w11 by rw [hw11]; (repeat (first | exact Below.refl _ _ | assumption | refine Below.drew ?_ | refine bdrewN ?_ _ | refine Below.alloc ?_ (by first | exact Nat.le_refl _ | (simp; done) | omega | (simp; omega)) _ | refine Below.setCell ?_ (by first | exact Nat.le_refl _ | (simp; done) | omega | (simp; omega)) _))) (by omega)
  have txA11 := txA10.keep (show Below w10.heap.size w10 w11 by rw [hw11]; (repeat (first | exact Below.refl _ _ | assumption | refine Below.drew ?_ | refine bdrewN ?_ _ | refine Below.alloc ?_ (by first | exact Nat.le_refl _ | (simp; done) | omega | (simp; omega)) _ | refine Below.setCell ?_ (by first | exact Nat.le_refl _ | (simp; done) | omega | (simp; omega)) _))) (by omega)
  clear hw11
  clear cBA10 cXA10 tA10 txA10
  have b12 : Below w.heap.size w w11.drew := b11.drew
  have z12 : w11.heap.size ≤ w11.drew.heap.size := Nat.le_refl _
  have cBA12 : w11.drew.cell? ⟨w.heap.size, 0, none⟩ = some (.slice aA tsA.length kA) := cBA11
  have cXA12 : w11.drew.cell? ⟨w8.heap.size, 0, none⟩ = some (.slice axA (tsA).length kxA) := cXA11
  have tA12 : Terms false (0) (w.heap.size) w11.drew (.slice aA tsA.length kA) (tsA) := tA11
  have txA12 : Terms true (w7.heap.size) (w8.heap.size) w11.drew (.slice axA (tsA).length kxA) (tsA) := txA11
  clear cBA11 cXA11 tA11 txA11
  go_region_held3 (fun w' => w'.cell? ⟨w8.heap.size, 0, none⟩ = some (.slice axA (tsA).length kxA) ∧ w'.cell? ⟨w.heap.size, 0, none⟩ = some (.slice aA tsA.length kA)) (first | exact ⟨cXA12, cBA12⟩ | exact ⟨cXA13, cBA13⟩ | exact ⟨cXA14, cBA14⟩ | exact ⟨alloc_keep cXA14, alloc_keep cBA14⟩)
    (first
      | (go_at_call_of 38 (Value.agg #[Value.slice aA tsA.length kA]); refine (toLin_any _ _ _ _ _ _ tA12 (by omega) (by omega)).mono ?_; rintro e w13 ⟨u13, rfl, f13, tq13⟩; have b13 := b12.trans (f13.mono (by omega)); have z13 := f13.size; have cBA13 := cell_keep f13 cBA12; have cXA13 := cell_keep f13 cXA12; have tA13 := tA12.keep f13 (by omega); have txA13 := txA12.keep f13 (by omega); clear cBA12 cXA12 tA12 txA12; have tyA13 := tq13; clear tq13; obtain ⟨ayA, kyA, rfl, layA, bayA⟩ := tyA13.shape)
      | (go_at_call 39; refine (eqLin_any _ _ _ _ _ _ _ _ _ _ _ txA13 tyA13 (by omega) (by omega)).mono ?_; rw [dec_self]; rintro e w14 ⟨rfl, f14⟩; have b14 := b13.trans (f14.mono (by omega)); have z14 := f14.size; have cBA14 := cell_keep f14 cBA13; have cXA14 := cell_keep f14 cXA13; have tA14 := tA13.keep f14 (by omega); have txA14 := txA13.keep f14 (by omega); have tyA14 := tyA13.keep f14 (by omega); clear cBA13 cXA13 tA13 txA13 tyA13))
  clear tyA14
  go_wp2_with fail
  go_ret
  exact ⟨rfl, b14⟩
end Go.Proofs.Ytpobbdibkhledaa.L
