/- Exact laws of layer 2 (written by tools/genexact.py): the program's function and its model return the same, write into no argument, and own what they return. -/
import Derived.Test.YtpobbdibkhledaaVars
namespace Go.Proofs.Ytpobbdibkhledaa.L
open Go.RowKit Go.Proofs.Ytpobbdibkhledaa.S
set_option linter.unusedVariables false
set_option linter.unusedSimpArgs false

set_option maxRecDepth 100000 in
set_option maxHeartbeats 6400000 in
theorem law_FnExactVarsOf (vA : Value) (tsA : List T) (w : World) (hA : Terms false 0 w.heap.size w vA tsA) :
    Calls Try.prog 14 #[.agg #[vA]] w fun e w' => e = .returned (.bool true) ∧ Below w.heap.size w w' := by
  obtain ⟨aA, kA, rfl, laA, baA⟩ := hA.shape
  have hlenF : (varsOf tsA).length ≤ 4194304 := Nat.le_trans (varsOf_len tsA) (by omega)
  by_cases hlA : tsA.length ≤ 1048576
  case' neg =>
    have SA := szLin_any false 0 w.heap.size (.slice aA tsA.length kA) tsA (((1048576 : Nat)) : Int)
    rw [if_pos (by omega)] at SA
    have SZA := Lib.hid SA; clear SA
    go_enter Try.func14, Try.ntmps14
    go_wp2_with fail
    refine name_call fun w1 hw1 => ?_
    have b1 : Below w.heap.size w w1 := by rw [hw1]; (repeat (first | exact Below.refl _ _ | assumption | refine Below.drew ?_ | refine bdrewN ?_ _ | refine Below.alloc ?_ (by first | exact Nat.le_refl _ | (simp; done) | omega | (simp; omega)) _ | refine Below.setCell ?_ (by first | exact Nat.le_refl _ | (simp; done) | omega | (simp; omega)) _))
    have z1 : w.heap.size + 1 ≤ w1.heap.size := by rw [hw1]; simp
    have cBA1 : w1.cell? ⟨w.heap.size, 0, none⟩ = some (.slice aA tsA.length kA) := by rw [hw1]; simp
    have tA1 := hA.keep b1 (Nat.le_refl _)
    clear hw1
    refine (SZA.out _ tA1 (by omega) (by omega) (by omega)).mono ?_; rintro e w2 ⟨rfl, f2⟩
    have b2 := b1.trans (f2.mono (by omega))
    have z2 := f2.size
    have cBA2 := cell_keep f2 cBA1
    have tA2 := tA1.keep f2 (by omega)
    clear cBA1 tA1
    go_wp2_with fail
    go_ret
    exact ⟨rfl, by (repeat (first | exact Below.refl _ _ | assumption | refine Below.drew ?_ | refine bdrewN ?_ _ | refine Below.alloc ?_ (by first | exact Nat.le_refl _ | (simp; done) | omega | (simp; omega)) _ | refine Below.setCell ?_ (by first | exact Nat.le_refl _ | (simp; done) | omega | (simp; omega)) _))⟩
  have SA := szLin_any false 0 w.heap.size (.slice aA tsA.length kA) tsA (((1048576 : Nat)) : Int)
  rw [if_neg (by omega)] at SA
  rw [show (((1048576 : Nat)) : Int) - tsA.length = (((1048576 - tsA.length : Nat)) : Int) from by omega] at SA
  have SZA := Lib.hid SA; clear SA
  go_enter Try.func14, Try.ntmps14
  go_wp2_with fail
  refine name_call fun w1 hw1 => ?_
  have b1 : Below w.heap.size w w1 := by rw [hw1]; (repeat (first | exact Below.refl _ _ | assumption | refine Below.drew ?_ | refine bdrewN ?_ _ | refine Below.alloc ?_ (by first | exact Nat.le_refl _ | (simp; done) | omega | (simp; omega)) _ | refine Below.setCell ?_ (by first | exact Nat.le_refl _ | (simp; done) | omega | (simp; omega)) _))
  have z1 : w.heap.size + 1 ≤ w1.heap.size := by rw [hw1]; simp
  have cBA1 : w1.cell? ⟨w.heap.size, 0, none⟩ = some (.slice aA tsA.length kA) := by rw [hw1]; simp
  have tA1 := hA.keep b1 (Nat.le_refl _)
  clear hw1
  refine (SZA.out _ tA1 (by omega) (by omega) (by omega)).mono ?_; rintro e w2 ⟨rfl, f2⟩
  have b2 := b1.trans (f2.mono (by omega))
  have z2 := f2.size
  have cBA2 := cell_keep f2 cBA1
  have tA2 := tA1.keep f2 (by omega)
  clear cBA1 tA1
  go_wp2_with fail
  refine name_call fun w3 hw3 => ?_
  have b3 : Below w.heap.size w w3 := by rw [hw3]; (repeat (first | exact Below.refl _ _ | assumption | refine Below.drew ?_ | refine bdrewN ?_ _ | refine Below.alloc ?_ (by first | exact Nat.le_refl _ | (simp; done) | omega | (simp; omega)) _ | refine Below.setCell ?_ (by first | exact Nat.le_refl _ | (simp; done) | omega | (simp; omega)) _))
  have z3 : w2.heap.size + 0 ≤ w3.heap.size := by rw [hw3]; simp
  have cBA3 : w3.cell? ⟨w.heap.size, 0, none⟩ = some (.slice aA tsA.length kA) := by rw [hw3]; first | exact cBA2 | exact cBA2
  have tA3 := tA2.keep (show Below w2.heap.size w2 w3 by rw [hw3]; (repeat (first | exact Below.refl _ _ | assumption | refine Below.drew ?_ | refine bdrewN ?_ _ | refine Below.alloc ?_ (by first | exact Nat.le_refl _ | (simp; done) | omega | (simp; omega)) _ | refine Below.setCell ?_ (by first | exact Nat.le_refl _ | (simp; done) | omega | (simp; omega)) _))) (by omega)
  clear hw3
  clear cBA2 tA2
  refine (toLin_any _ _ _ _ _ _ tA3 (by omega) (by omega)).mono ?_; rintro e w4 ⟨u4, rfl, f4, tq4⟩
  have b4 := b3.trans (f4.mono (by omega))
  have z4 := f4.size
  have cBA4 := cell_keep f4 cBA3
  have tA4 := tA3.keep f4 (by omega)
  clear cBA3 tA3
  have tmA4 := tq4; clear tq4
  obtain ⟨amA, kmA, rfl, lamA, bamA⟩ := tmA4.shape
  go_wp2_with fail
  refine name_call fun w5 hw5 => ?_
  have b5 : Below w.heap.size w w5 := by rw [hw5]; (repeat (first | exact Below.refl _ _ | assumption | refine Below.drew ?_ | refine bdrewN ?_ _ | refine Below.alloc ?_ (by first | exact Nat.le_refl _ | (simp; done) | omega | (simp; omega)) _ | refine Below.setCell ?_ (by first | exact Nat.le_refl _ | (simp; done) | omega | (simp; omega)) _))
  have z5 : w4.heap.size + 0 ≤ w5.heap.size := by rw [hw5]; simp
  have cBA5 : w5.cell? ⟨w.heap.size, 0, none⟩ = some (.slice aA tsA.length kA) := by rw [hw5]; first | exact cBA4 | exact cBA4
  have tA5 := tA4.keep (show Below w4.heap.size w4 w5 by rw [hw5]; (repeat (first | exact Below.refl _ _ | assumption | refine Below.drew ?_ | refine bdrewN ?_ _ | refine Below.alloc ?_ (by first | exact Nat.le_refl _ | (simp; done) | omega | (simp; omega)) _ | refine Below.setCell ?_ (by first | exact Nat.le_refl _ | (simp; done) | omega | (simp; omega)) _))) (by omega)
  have tmA5 := tmA4.keep (show Below w4.heap.size w4 w5 by rw [hw5]; (repeat (first | exact Below.refl _ _ | assumption | refine Below.drew ?_ | refine bdrewN ?_ _ | refine Below.alloc ?_ (by first | exact Nat.le_refl _ | (simp; done) | omega | (simp; omega)) _ | refine Below.setCell ?_ (by first | exact Nat.le_refl _ | (simp; done) | omega | (simp; omega)) _))) (by omega)
  clear hw5
  clear cBA4 tA4 tmA4
  refine (vars_spec _ _ _ _ _ _ tmA5 (by omega) ).mono ?_; rintro e w6 ⟨u6, rfl, f6, tq6⟩
  have b6 := b5.trans (f6.mono (by omega))
  have z6 := f6.size
  have cBA6 := cell_keep f6 cBA5
  have tA6 := tA5.keep f6 (by omega)
  have tmA6 := tmA5.keep f6 (by omega)
  clear cBA5 tA5 tmA5
  have tW6 := tq6; clear tq6
  obtain ⟨aW, kW, rfl, laW, baW⟩ := tW6.shape
  clear tmA6
  go_wp2_with fail
  refine name_call fun w7 hw7 => ?_
  have b7 : Below w.heap.size w w7 := by rw [hw7]; (repeat (first | exact Below.refl _ _ | assumption | refine Below.drew ?_ | refine bdrewN ?_ _ | refine Below.alloc ?_ (by first | exact Nat.le_refl _ | (simp; done) | omega | (simp; omega)) _ | refine Below.setCell ?_ (by first | exact Nat.le_refl _ | (simp; done) | omega | (simp; omega)) _))
  have z7 : w6.heap.size + 0 ≤ w7.heap.size := by rw [hw7]; simp
  have cBA7 : w7.cell? ⟨w.heap.size, 0, none⟩ = some (.slice aA tsA.length kA) := by rw [hw7]; first | exact cBA6 | exact cBA6
  have tA7 := tA6.keep (show Below w6.heap.size w6 w7 by rw [hw7]; (repeat (first | exact Below.refl _ _ | assumption | refine Below.drew ?_ | refine bdrewN ?_ _ | refine Below.alloc ?_ (by first | exact Nat.le_refl _ | (simp; done) | omega | (simp; omega)) _ | refine Below.setCell ?_ (by first | exact Nat.le_refl _ | (simp; done) | omega | (simp; omega)) _))) (by omega)
  have tW7 := tW6.keep (show Below w6.heap.size w6 w7 by rw [hw7]; (repeat (first | exact Below.refl _ _ | assumption | refine Below.drew ?_ | refine bdrewN ?_ _ | refine Below.alloc ?_ (by first | exact Nat.le_refl _ | (simp; done) | omega | (simp; omega)) _ | refine Below.setCell ?_ (by first | exact Nat.le_refl _ | (simp; done) | omega | (simp; omega)) _))) (by omega)
  clear hw7
  clear cBA6 tA6 tW6
  refine (toLin_any _ _ _ _ _ _ tA7 (by omega) (by omega)).mono ?_; rintro e w8 ⟨u8, rfl, f8, tq8⟩
  have b8 := b7.trans (f8.mono (by omega))
  have z8 := f8.size
  have cBA8 := cell_keep f8 cBA7
  have tA8 := tA7.keep f8 (by omega)
  have tW8 := tW7.keep f8 (by omega)
  clear cBA7 tA7 tW7
  have txA8 := tq8; clear tq8
  obtain ⟨axA, kxA, rfl, laxA, baxA⟩ := txA8.shape
  have lBA8 : w.heap.size < w8.heap.size := by omega
  go_wp2_with fail
  refine name_call fun w9 hw9 => ?_
  clear lBA8
  have b9 : Below w.heap.size w w9 := by rw [hw9]; (repeat (first | exact Below.refl _ _ | assumption | refine Below.drew ?_ | refine bdrewN ?_ _ | refine Below.alloc ?_ (by first | exact Nat.le_refl _ | (simp; done) | omega | (simp; omega)) _ | refine Below.setCell ?_ (by first | exact Nat.le_refl _ | (simp; done) | omega | (simp; omega)) _))
  have z9 : w8.heap.size + 1 ≤ w9.heap.size := by rw [hw9]; simp
  have cBA9 : w9.cell? ⟨w.heap.size, 0, none⟩ = some (.slice aA tsA.length kA) := by rw [hw9]; first | exact cBA8 | exact alloc_keep (cBA8)
  have cXA9 : w9.cell? ⟨w8.heap.size, 0, none⟩ = some (.slice axA (tsA).length kxA) := by rw [hw9]; simp
  have tA9 := tA8.keep (show Below w8.heap.size w8 w9 by rw [hw9]; (repeat (first | exact Below.refl _ _ | assumption | refine Below.drew ?_ | refine bdrewN ?_ _ | refine Below.alloc ?_ (by first | exact Nat.le_refl _ | (simp; done) | omega | (simp; omega)) _ | refine Below.setCell ?_ (by first | exact Nat.le_refl _ | (simp; done) | omega | (simp; omega)) _))) (by omega)
  have tW9 := tW8.keep (show Below w8.heap.size w8 w9 by rw [hw9]; (repeat (first | exact Below.refl _ _ | assumption | refine Below.drew ?_ | refine bdrewN ?_ _ | refine Below.alloc ?_ (by first | exact Nat.le_refl _ | (simp; done) | omega | (simp; omega)) _ | refine Below.setCell ?_ (by first | exact Nat.le_refl _ | (simp; done) | omega | (simp; omega)) _))) (by omega)
  have txA9 := txA8.keep (show Below w8.heap.size w8 w9 by rw [hw9]; (repeat (first | exact Below.refl _ _ | assumption | refine Below.drew ?_ | refine bdrewN ?_ _ | refine Below.alloc ?_ (by first | exact Nat.le_refl _ | (simp; done) | omega | (simp; omega)) _ | refine Below.setCell ?_ (by first | exact Nat.le_refl _ | (simp; done) | omega | (simp; omega)) _))) (by omega)
  clear hw9
  clear cBA8 tA8 tW8 txA8
  refine (vars_impl _ _ _ _ _ _ txA9 (by omega) ).mono ?_; rintro e w10 ⟨u10, rfl, f10, tq10⟩
  have b10 := b9.trans (f10.mono (by omega))
  have z10 := f10.size
  have cBA10 := cell_keep f10 cBA9
  have cXA10 := cell_keep f10 cXA9
  have tA10 := tA9.keep f10 (by omega)
  have tW10 := tW9.keep f10 (by omega)
  have txA10 := txA9.keep f10 (by omega)
  clear cBA9 cXA9 tA9 tW9 txA9
  have tG10 := tq10; clear tq10
  obtain ⟨aG, kG, rfl, laG, baG⟩ := tG10.shape
  go_wp2_with fail
  refine name_call fun w11 hw11 => ?_
  have b11 : Below w.heap.size w w11 := by rw [hw11]; (repeat (first | exact Below.refl _ _ | assumption | refine Below.drew ?_ | refine bdrewN ?_ _ | refine Below.alloc ?_ (by first | exact Nat.le_refl _ | (simp; done) | omega | (simp; omega)) _ | refine Below.setCell ?_ (by first | exact Nat.le_refl _ | (simp; done) | omega | (simp; omega)) _))
  have z11 : w10.heap.size + 0 ≤ w11.heap.size := by rw [hw11]; simp
  have cBA11 : w11.cell? ⟨w.heap.size, 0, none⟩ = some (.slice aA tsA.length kA) := by rw [hw11]; first | exact cBA10 | exact cBA10
  have cXA11 : w11.cell? ⟨w8.heap.size, 0, none⟩ = some (.slice axA (tsA).length kxA) := by rw [hw11]; first | exact cXA10 | exact cXA10
  have tA11 := tA10.keep (show Below w10.heap.size w10 w11 by rw [hw11]; (repeat (first | exact Below.refl _ _ | assumption | refine Below.drew ?_ | refine bdrewN ?_ _ | refine Below.alloc ?_ (by first | exact Nat.le_refl _ | (simp; done) | omega | (simp; omega)) _ | refine Below.setCell ?_ (by first | exact Nat.le_refl _ | (simp; done) | omega | (simp; omega)) _))) (by omega)
  have tW11 := tW10.keep (show Below w10.heap.size w10 w11 by rw [hw11]; (repeat (first | exact Below.refl _ _ | assumption | refine Below.drew ?_ | refine bdrewN ?_ _ | refine Below.alloc ?_ (by first | exact Nat.le_refl _ | (simp; done) | omega | (simp; omega)) _ | refine Below.setCell ?_ (by first | exact Nat.le_refl _ | (simp; done) | omega | (simp; omega)) _))) (by omega)
  have txA11 := txA10.keep (show Below w10.heap.size w10 w11 by rw [hw11]; (repeat (first | exact Below.refl _ _ | assumption | refine Below.drew ?_ | refine bdrewN ?_ _ | refine Below.alloc ?_ (by first | exact Nat.le_refl _ | (simp; done) | omega | (simp; omega)) _ | refine Below.setCell ?_ (by first | exact Nat.le_refl _ | (simp; done) | omega | (simp; omega)) _))) (by omega)
  have tG11 := tG10.keep (show Below w10.heap.size w10 w11 by rw [hw11]; (repeat (first | exact Below.refl _ _ | assumption | refine Below.drew ?_ | refine bdrewN ?_ _ | refine Below.alloc ?_ (by first | exact Nat.le_refl _ | (simp; done) | omega | (simp; omega)) _ | refine Below.setCell ?_ (by first | exact Nat.le_refl _ | (simp; done) | omega | (simp; omega)) _))) (by omega)
  clear hw11
  clear cBA10 cXA10 tA10 tW10 txA10 tG10
  refine (eqNums_any _ _ _ _ _ _ _ _ _ _ _ tG11 tW11 (by omega) (by omega)).mono ?_; rw [dec_self]; rintro e w12 ⟨rfl, f12⟩
  have b12 := b11.trans (f12.mono (by omega))
  have z12 := f12.size
  have cBA12 := cell_keep f12 cBA11
  have cXA12 := cell_keep f12 cXA11
  have tA12 := tA11.keep f12 (by omega)
  have tW12 := tW11.keep f12 (by omega)
  have txA12 := txA11.keep f12 (by omega)
  have tG12 := tG11.keep f12 (by omega)
  clear cBA11 cXA11 tA11 tW11 txA11 tG11
  go_wp2_with fail
  refine name_wp fun w13 hw13 => ?_
  have b13 : Below w.heap.size w w13 := by rw [hw13]; (repeat (first | exact Below.refl _ _ | assumption | refine Below.drew ?_ | refine bdrewN ?_ _ | refine Below.alloc ?_ (by first | exact Nat.le_refl _ | (simp; done) | omega | (simp; omega)) _ | refine Below.setCell ?_ (by first | exact Nat.le_refl _ | (simp; done) | omega | (simp; omega)) _))
  have z13 : w12.heap.size + 0 ≤ w13.heap.size := by rw [hw13]; simp
  have cBA13 : w13.cell? ⟨w.heap.size, 0, none⟩ = some (.slice aA tsA.length kA) := by rw [hw13]; first | exact cBA12 | exact cBA12
  have cXA13 : w13.cell? ⟨w8.heap.size, 0, none⟩ = some (.slice axA (tsA).length kxA) := by rw [hw13]; first | exact cXA12 | exact cXA12
  have tA13 := tA12.keep (show Below w12.heap.size w12 w13 by rw [hw13]; (repeat (first | exact Below.refl _ _ | assumption | refine Below.drew ?_ | refine bdrewN ?_ _ | refine Below.alloc ?_ (by first | exact Nat.le_refl _ | (simp; done) | omega | (simp; omega)) _ | refine Below.setCell ?_ (by first | exact Nat.le_refl _ | (simp; done) | omega | (simp; omega)) _))) (by omega)
  have tW13 := tW12.keep (show Below w12.heap.size w12 w13 by rw [hw13]; (repeat (first | exact Below.refl _ _ | assumption | refine Below.drew ?_ | refine bdrewN ?_ _ | refine Below.alloc ?_ (by first | exact Nat.le_refl _ | (simp; done) | omega | (simp; omega)) _ | refine Below.setCell ?_ (by first | exact Nat.le_refl _ | (simp; done) | omega | (simp; omega)) _))) (by omega)
  have txA13 := txA12.keep (show Below w12.heap.size w12 w13 by rw [hw13]; (repeat (first | exact Below.refl _ _ | assumption | refine Below.drew ?_ | refine bdrewN ?_ _ | refine Below.alloc ?_ (by first | exact Nat.le_refl _ | (simp; done) | omega | (simp; omega)) _ | refine Below.setCell ?_ (by first | exact Nat.le_refl _ | (simp; done) | omega | (simp; omega)) _))) (by omega)
  have tG13 := tG12.keep (show Below w12.heap.size w12 w13 by rw [hw13]; (repeat (first | exact Below.refl _ _ | assumption | refine Below.drew ?_ | refine bdrewN ?_ _ | refine Below.alloc ?_ (by first | exact Nat.le_refl _ | (simp; done) | omega | (simp; omega)) _ | refine Below.setCell ?_ (by first | exact Nat.le_refl _ | (simp; done) | omega | (simp; omega)) _))) (by omega)
  clear hw13
  clear cBA12 cXA12 tA12 tW12 txA12 tG12
  have b14 : Below w.heap.size w w13.drew := b13.drew
  have z14 : w13.heap.size ≤ w13.drew.heap.size := Nat.le_refl _
  have cBA14 : w13.drew.cell? ⟨w.heap.size, 0, none⟩ = some (.slice aA tsA.length kA) := cBA13
  have cXA14 : w13.drew.cell? ⟨w8.heap.size, 0, none⟩ = some (.slice axA (tsA).length kxA) := cXA13
  have tA14 : Terms false (0) (w.heap.size) w13.drew (.slice aA tsA.length kA) (tsA) := tA13
  have tW14 : Nums true (w5.heap.size) (w6.heap.size) w13.drew (.slice aW (varsOf tsA).length kW) (varsOf tsA) := tW13
  have txA14 : Terms true (w7.heap.size) (w8.heap.size) w13.drew (.slice axA (tsA).length kxA) (tsA) := txA13
  have tG14 : Nums true (w9.heap.size) (w10.heap.size) w13.drew (.slice aG (varsOf tsA).length kG) (varsOf tsA) := tG13
  clear cBA13 cXA13 tA13 tW13 txA13 tG13
  go_region_held3 (fun w' => w'.cell? ⟨w8.heap.size, 0, none⟩ = some (.slice axA (tsA).length kxA) ∧ w'.cell? ⟨w.heap.size, 0, none⟩ = some (.slice aA tsA.length kA)) (first | exact ⟨cXA14, cBA14⟩ | exact ⟨cXA15, cBA15⟩ | exact ⟨cXA16, cBA16⟩ | exact ⟨alloc_keep cXA16, alloc_keep cBA16⟩)
    (first
      | (go_at_call_of 38 (Value.agg #[Value.slice aA tsA.length kA]); refine (toLin_any _ _ _ _ _ _ tA14 (by omega) (by omega)).mono ?_; rintro e w15 ⟨u15, rfl, f15, tq15⟩; have b15 := b14.trans (f15.mono (by omega)); have z15 := f15.size; have cBA15 := cell_keep f15 cBA14; have cXA15 := cell_keep f15 cXA14; have tA15 := tA14.keep f15 (by omega); have tW15 := tW14.keep f15 (by omega); have txA15 := txA14.keep f15 (by omega); have tG15 := tG14.keep f15 (by omega); clear cBA14 cXA14 tA14 tW14 txA14 tG14; have tyA15 := tq15; clear tq15; obtain ⟨ayA, kyA, rfl, layA, bayA⟩ := tyA15.shape)
      | (go_at_call 39; refine (eqLin_any _ _ _ _ _ _ _ _ _ _ _ txA15 tyA15 (by omega) (by omega)).mono ?_; rw [dec_self]; rintro e w16 ⟨rfl, f16⟩; have b16 := b15.trans (f16.mono (by omega)); have z16 := f16.size; have cBA16 := cell_keep f16 cBA15; have cXA16 := cell_keep f16 cXA15; have tA16 := tA15.keep f16 (by omega); have tW16 := tW15.keep f16 (by omega); have txA16 := txA15.keep f16 (by omega); have tG16 := tG15.keep f16 (by omega); have tyA16 := tyA15.keep f16 (by omega); clear cBA15 cXA15 tA15 tW15 txA15 tG15 tyA15))
  clear tyA16
  go_wp2_with fail
  refine name_call fun w17 hw17 => ?_
  have b17 : Below w.heap.size w w17 := by rw [hw17]; (repeat (first | exact Below.refl _ _ | assumption | refine Below.drew ?_ | refine bdrewN ?_ _ | refine Below.alloc ?_ (by first | exact Nat.le_refl _ | (simp; done) | omega | (simp; omega)) _ | refine Below.setCell ?_ (by first | exact Nat.le_refl _ | (simp; done) | omega | (simp; omega)) _))
  have z17 : w16.heap.size + 0 ≤ w17.heap.size := by rw [hw17]; simp
  have cBA17 : w17.cell? ⟨w.heap.size, 0, none⟩ = some (.slice aA tsA.length kA) := by rw [hw17]; first | exact cBA16 | exact cBA16
  have cXA17 : w17.cell? ⟨w8.heap.size, 0, none⟩ = some (.slice axA (tsA).length kxA) := by rw [hw17]; first | exact cXA16 | exact cXA16
  have tA17 := tA16.keep (show Below w16.heap.size w16 w17 by rw [hw17]; (repeat (first | exact Below.refl _ _ | assumption | refine Below.drew ?_ | refine bdrewN ?_ _ | refine Below.alloc ?_ (by first | exact Nat.le_refl _ | (simp; done) | omega | (simp; omega)) _ | refine Below.setCell ?_ (by first | exact Nat.le_refl _ | (simp; done) | omega | (simp; omega)) _))) (by omega)
  have tW17 := tW16.keep (show Below w16.heap.size w16 w17 by rw [hw17]; (repeat (first | exact Below.refl _ _ | assumption | refine Below.drew ?_ | refine bdrewN ?_ _ | refine Below.alloc ?_ (by first | exact Nat.le_refl _ | (simp; done) | omega | (simp; omega)) _ | refine Below.setCell ?_ (by first | exact Nat.le_refl _ | (simp; done) | omega | (simp; omega)) _))) (by omega)
  have txA17 := txA16.keep (show Below w16.heap.size w16 w17 by rw [hw17]; (repeat (first | exact Below.refl _ _ | assumption | refine Below.drew ?_ | refine bdrewN ?_ _ | refine Below.alloc ?_ (by first | exact Nat.le_refl _ | (simp; done) | omega | (simp; omega)) _ | refine Below.setCell ?_ (by first | exact Nat.le_refl _ | (simp; done) | omega | (simp; omega)) _))) (by omega)
  have tG17 := tG16.keep (show Below w16.heap.size w16 w17 by rw [hw17]; (repeat (first | exact Below.refl _ _ | assumption | refine Below.drew ?_ | refine bdrewN ?_ _ | refine Below.alloc ?_ (by first | exact Nat.le_refl _ | (simp; done) | omega | (simp; omega)) _ | refine Below.setCell ?_ (by first | exact Nat.le_refl _ | (simp; done) | omega | (simp; omega)) _))) (by omega)
  clear hw17
  clear cBA16 cXA16 tA16 tW16 txA16 tG16
  refine (markLin_any _ _ _ _ (1) w17 txA17 (by omega) (by omega) (by omega)).mono ?_; rintro e w18 ⟨rfl, f18, tq18⟩
  have b18 := b17.trans (f18.below (by omega) (by omega))
  have z18 := f18.size
  have cBA18 := (f18.cell (b := w.heap.size) (by omega) (by omega) 0).trans cBA17
  have cXA18 := (f18.cell (b := w8.heap.size) (by omega) (by omega) 0).trans cXA17
  have tA18 := tA17.only f18 (by omega) (by omega)
  have tW18 := tW17.only f18 (by omega) (by omega)
  have txA18 := tq18; clear tq18
  have tG18 := tG17.only f18 (by omega) (by omega)
  clear cBA17 cXA17 tA17 tW17 txA17 tG17
  go_wp2_with fail
  refine name_call fun w19 hw19 => ?_
  have b19 : Below w.heap.size w w19 := by rw [hw19]; (repeat (first | exact Below.refl _ _ | assumption | refine Below.drew ?_ | refine bdrewN ?_ _ | refine Below.alloc ?_ (by first | exact Nat.le_refl _ | (simp; done) | omega | (simp; omega)) _ | refine Below.setCell ?_ (by first | exact Nat.le_refl _ | (simp; done) | omega | (simp; omega)) _))
  have z19 : w18.heap.size + 0 ≤ w19.heap.size := by rw [hw19]; simp
  have cBA19 : w19.cell? ⟨w.heap.size, 0, none⟩ = some (.slice aA tsA.length kA) := by rw [hw19]; first | exact cBA18 | exact cBA18
  have cXA19 : w19.cell? ⟨w8.heap.size, 0, none⟩ = some (.slice axA (tsA).length kxA) := by rw [hw19]; first | exact cXA18 | exact cXA18
  have tA19 := tA18.keep (show Below w18.heap.size w18 w19 by rw [hw19]; (repeat (first | exact Below.refl _ _ | assumption | refine Below.drew ?_ | refine bdrewN ?_ _ | refine Below.alloc ?_ (by first | exact Nat.le_refl _ | (simp; done) | omega | (simp; omega)) _ | refine Below.setCell ?_ (by first | exact Nat.le_refl _ | (simp; done) | omega | (simp; omega)) _))) (by omega)
  have tW19 := tW18.keep (show Below w18.heap.size w18 w19 by rw [hw19]; (repeat (first | exact Below.refl _ _ | assumption | refine Below.drew ?_ | refine bdrewN ?_ _ | refine Below.alloc ?_ (by first | exact Nat.le_refl _ | (simp; done) | omega | (simp; omega)) _ | refine Below.setCell ?_ (by first | exact Nat.le_refl _ | (simp; done) | omega | (simp; omega)) _))) (by omega)
  have txA19 := txA18.keep (show Below w18.heap.size w18 w19 by rw [hw19]; (repeat (first | exact Below.refl _ _ | assumption | refine Below.drew ?_ | refine bdrewN ?_ _ | refine Below.alloc ?_ (by first | exact Nat.le_refl _ | (simp; done) | omega | (simp; omega)) _ | refine Below.setCell ?_ (by first | exact Nat.le_refl _ | (simp; done) | omega | (simp; omega)) _))) (by omega)
  have tG19 := tG18.keep (show Below w18.heap.size w18 w19 by rw [hw19]; (repeat (first | exact Below.refl _ _ | assumption | refine Below.drew ?_ | refine bdrewN ?_ _ | refine Below.alloc ?_ (by first | exact Nat.le_refl _ | (simp; done) | omega | (simp; omega)) _ | refine Below.setCell ?_ (by first | exact Nat.le_refl _ | (simp; done) | omega | (simp; omega)) _))) (by omega)
  clear hw19
  clear cBA18 cXA18 tA18 tW18 txA18 tG18
  refine (eqNums_any _ _ _ _ _ _ _ _ _ _ _ tG19 tW19 (by omega) (by omega)).mono ?_; rw [dec_self]; rintro e w20 ⟨rfl, f20⟩
  have b20 := b19.trans (f20.mono (by omega))
  have z20 := f20.size
  have cBA20 := cell_keep f20 cBA19
  have cXA20 := cell_keep f20 cXA19
  have tA20 := tA19.keep f20 (by omega)
  have tW20 := tW19.keep f20 (by omega)
  have txA20 := txA19.keep f20 (by omega)
  have tG20 := tG19.keep f20 (by omega)
  clear cBA19 cXA19 tA19 tW19 txA19 tG19
  clear txA20
  go_wp2_with fail
  refine name_call fun w21 hw21 => ?_
  have b21 : Below w.heap.size w w21 := by rw [hw21]; (repeat (first | exact Below.refl _ _ | assumption | refine Below.drew ?_ | refine bdrewN ?_ _ | refine Below.alloc ?_ (by first | exact Nat.le_refl _ | (simp; done) | omega | (simp; omega)) _ | refine Below.setCell ?_ (by first | exact Nat.le_refl _ | (simp; done) | omega | (simp; omega)) _))
  have z21 : w20.heap.size + 0 ≤ w21.heap.size := by rw [hw21]; simp
  have cBA21 : w21.cell? ⟨w.heap.size, 0, none⟩ = some (.slice aA tsA.length kA) := by rw [hw21]; first | exact cBA20 | exact cBA20
  have cXA21 : w21.cell? ⟨w8.heap.size, 0, none⟩ = some (.slice axA (tsA).length kxA) := by rw [hw21]; first | exact cXA20 | exact cXA20
  have tA21 := tA20.keep (show Below w20.heap.size w20 w21 by rw [hw21]; (repeat (first | exact Below.refl _ _ | assumption | refine Below.drew ?_ | refine bdrewN ?_ _ | refine Below.alloc ?_ (by first | exact Nat.le_refl _ | (simp; done) | omega | (simp; omega)) _ | refine Below.setCell ?_ (by first | exact Nat.le_refl _ | (simp; done) | omega | (simp; omega)) _))) (by omega)
  have tW21 := tW20.keep (show Below w20.heap.size w20 w21 by rw [hw21]; (repeat (first | exact Below.refl _ _ | assumption | refine Below.drew ?_ | refine bdrewN ?_ _ | refine Below.alloc ?_ (by first | exact Nat.le_refl _ | (simp; done) | omega | (simp; omega)) _ | refine Below.setCell ?_ (by first | exact Nat.le_refl _ | (simp; done) | omega | (simp; omega)) _))) (by omega)
  have tG21 := tG20.keep (show Below w20.heap.size w20 w21 by rw [hw21]; (repeat (first | exact Below.refl _ _ | assumption | refine Below.drew ?_ | refine bdrewN ?_ _ | refine Below.alloc ?_ (by first | exact Nat.le_refl _ | (simp; done) | omega | (simp; omega)) _ | refine Below.setCell ?_ (by first | exact Nat.le_refl _ | (simp; done) | omega | (simp; omega)) _))) (by omega)
  clear hw21
  clear cBA20 cXA20 tA20 tW20 tG20
  refine (markNums_any _ _ _ _ (1) w21 tG21 (by omega) (by omega) (by omega)).mono ?_; rintro e w22 ⟨rfl, f22, tq22⟩
  have b22 := b21.trans (f22.below (by omega) (by omega))
  have z22 := f22.size
  have cBA22 := (f22.cell (b := w.heap.size) (by omega) (by omega) 0).trans cBA21
  have cXA22 := (f22.cell (b := w8.heap.size) (by omega) (by omega) 0).trans cXA21
  have tA22 := tA21.only f22 (by omega) (by omega)
  have tW22 := tW21.only f22 (by omega) (by omega)
  have tG22 := tq22; clear tq22
  clear cBA21 cXA21 tA21 tW21 tG21
  go_wp2_with fail
  refine name_call fun w23 hw23 => ?_
  have b23 : Below w.heap.size w w23 := by rw [hw23]; (repeat (first | exact Below.refl _ _ | assumption | refine Below.drew ?_ | refine bdrewN ?_ _ | refine Below.alloc ?_ (by first | exact Nat.le_refl _ | (simp; done) | omega | (simp; omega)) _ | refine Below.setCell ?_ (by first | exact Nat.le_refl _ | (simp; done) | omega | (simp; omega)) _))
  have z23 : w22.heap.size + 0 ≤ w23.heap.size := by rw [hw23]; simp
  have cBA23 : w23.cell? ⟨w.heap.size, 0, none⟩ = some (.slice aA tsA.length kA) := by rw [hw23]; first | exact cBA22 | exact cBA22
  have cXA23 : w23.cell? ⟨w8.heap.size, 0, none⟩ = some (.slice axA (tsA).length kxA) := by rw [hw23]; first | exact cXA22 | exact cXA22
  have tA23 := tA22.keep (show Below w22.heap.size w22 w23 by rw [hw23]; (repeat (first | exact Below.refl _ _ | assumption | refine Below.drew ?_ | refine bdrewN ?_ _ | refine Below.alloc ?_ (by first | exact Nat.le_refl _ | (simp; done) | omega | (simp; omega)) _ | refine Below.setCell ?_ (by first | exact Nat.le_refl _ | (simp; done) | omega | (simp; omega)) _))) (by omega)
  have tW23 := tW22.keep (show Below w22.heap.size w22 w23 by rw [hw23]; (repeat (first | exact Below.refl _ _ | assumption | refine Below.drew ?_ | refine bdrewN ?_ _ | refine Below.alloc ?_ (by first | exact Nat.le_refl _ | (simp; done) | omega | (simp; omega)) _ | refine Below.setCell ?_ (by first | exact Nat.le_refl _ | (simp; done) | omega | (simp; omega)) _))) (by omega)
  have tG23 := tG22.keep (show Below w22.heap.size w22 w23 by rw [hw23]; (repeat (first | exact Below.refl _ _ | assumption | refine Below.drew ?_ | refine bdrewN ?_ _ | refine Below.alloc ?_ (by first | exact Nat.le_refl _ | (simp; done) | omega | (simp; omega)) _ | refine Below.setCell ?_ (by first | exact Nat.le_refl _ | (simp; done) | omega | (simp; omega)) _))) (by omega)
  clear hw23
  clear cBA22 cXA22 tA22 tW22 tG22
  refine (heldNums_any _ _ _ _ _ 1 _ tG23 (by omega) (by omega) (by omega)).mono ?_; rintro e w24 ⟨rfl, f24⟩
  have b24 := b23.trans (f24.mono (by omega))
  have z24 := f24.size
  have cBA24 := cell_keep f24 cBA23
  have cXA24 := cell_keep f24 cXA23
  have tA24 := tA23.keep f24 (by omega)
  have tW24 := tW23.keep f24 (by omega)
  have tG24 := tG23.keep f24 (by omega)
  clear cBA23 cXA23 tA23 tW23 tG23
  go_wp2_with fail
  refine name_call fun w25 hw25 => ?_
  have b25 : Below w.heap.size w w25 := by rw [hw25]; (repeat (first | exact Below.refl _ _ | assumption | refine Below.drew ?_ | refine bdrewN ?_ _ | refine Below.alloc ?_ (by first | exact Nat.le_refl _ | (simp; done) | omega | (simp; omega)) _ | refine Below.setCell ?_ (by first | exact Nat.le_refl _ | (simp; done) | omega | (simp; omega)) _))
  have z25 : w24.heap.size + 0 ≤ w25.heap.size := by rw [hw25]; simp
  have cBA25 : w25.cell? ⟨w.heap.size, 0, none⟩ = some (.slice aA tsA.length kA) := by rw [hw25]; first | exact cBA24 | exact cBA24
  have cXA25 : w25.cell? ⟨w8.heap.size, 0, none⟩ = some (.slice axA (tsA).length kxA) := by rw [hw25]; first | exact cXA24 | exact cXA24
  have tA25 := tA24.keep (show Below w24.heap.size w24 w25 by rw [hw25]; (repeat (first | exact Below.refl _ _ | assumption | refine Below.drew ?_ | refine bdrewN ?_ _ | refine Below.alloc ?_ (by first | exact Nat.le_refl _ | (simp; done) | omega | (simp; omega)) _ | refine Below.setCell ?_ (by first | exact Nat.le_refl _ | (simp; done) | omega | (simp; omega)) _))) (by omega)
  have tW25 := tW24.keep (show Below w24.heap.size w24 w25 by rw [hw25]; (repeat (first | exact Below.refl _ _ | assumption | refine Below.drew ?_ | refine bdrewN ?_ _ | refine Below.alloc ?_ (by first | exact Nat.le_refl _ | (simp; done) | omega | (simp; omega)) _ | refine Below.setCell ?_ (by first | exact Nat.le_refl _ | (simp; done) | omega | (simp; omega)) _))) (by omega)
  have tG25 := tG24.keep (show Below w24.heap.size w24 w25 by rw [hw25]; (repeat (first | exact Below.refl _ _ | assumption | refine Below.drew ?_ | refine bdrewN ?_ _ | refine Below.alloc ?_ (by first | exact Nat.le_refl _ | (simp; done) | omega | (simp; omega)) _ | refine Below.setCell ?_ (by first | exact Nat.le_refl _ | (simp; done) | omega | (simp; omega)) _))) (by omega)
  clear hw25
  clear cBA24 cXA24 tA24 tW24 tG24
  refine (toLin_any _ _ _ _ _ _ tA25 (by omega) (by omega)).mono ?_; rintro e w26 ⟨u26, rfl, f26, tq26⟩
  have b26 := b25.trans (f26.mono (by omega))
  have z26 := f26.size
  have cBA26 := cell_keep f26 cBA25
  have cXA26 := cell_keep f26 cXA25
  have tA26 := tA25.keep f26 (by omega)
  have tW26 := tW25.keep f26 (by omega)
  have tG26 := tG25.keep f26 (by omega)
  clear cBA25 cXA25 tA25 tW25 tG25
  have tmA26 := tq26; clear tq26
  obtain ⟨amA, kmA, rfl, lamA, bamA⟩ := tmA26.shape
  go_wp2_with fail
  refine name_call fun w27 hw27 => ?_
  have b27 : Below w.heap.size w w27 := by rw [hw27]; (repeat (first | exact Below.refl _ _ | assumption | refine Below.drew ?_ | refine bdrewN ?_ _ | refine Below.alloc ?_ (by first | exact Nat.le_refl _ | (simp; done) | omega | (simp; omega)) _ | refine Below.setCell ?_ (by first | exact Nat.le_refl _ | (simp; done) | omega | (simp; omega)) _))
  have z27 : w26.heap.size + 0 ≤ w27.heap.size := by rw [hw27]; simp
  have cBA27 : w27.cell? ⟨w.heap.size, 0, none⟩ = some (.slice aA tsA.length kA) := by rw [hw27]; first | exact cBA26 | exact cBA26
  have cXA27 : w27.cell? ⟨w8.heap.size, 0, none⟩ = some (.slice axA (tsA).length kxA) := by rw [hw27]; first | exact cXA26 | exact cXA26
  have tA27 := tA26.keep (show Below w26.heap.size w26 w27 by rw [hw27]; (repeat (first | exact Below.refl _ _ | assumption | refine Below.drew ?_ | refine bdrewN ?_ _ | refine Below.alloc ?_ (by first | exact Nat.le_refl _ | (simp; done) | omega | (simp; omega)) _ | refine Below.setCell ?_ (by first | exact Nat.le_refl _ | (simp; done) | omega | (simp; omega)) _))) (by omega)
  have tW27 := tW26.keep (show Below w26.heap.size w26 w27 by rw [hw27]; (repeat (first | exact Below.refl _ _ | assumption | refine Below.drew ?_ | refine bdrewN ?_ _ | refine Below.alloc ?_ (by first | exact Nat.le_refl _ | (simp; done) | omega | (simp; omega)) _ | refine Below.setCell ?_ (by first | exact Nat.le_refl _ | (simp; done) | omega | (simp; omega)) _))) (by omega)
  have tG27 := tG26.keep (show Below w26.heap.size w26 w27 by rw [hw27]; (repeat (first | exact Below.refl _ _ | assumption | refine Below.drew ?_ | refine bdrewN ?_ _ | refine Below.alloc ?_ (by first | exact Nat.le_refl _ | (simp; done) | omega | (simp; omega)) _ | refine Below.setCell ?_ (by first | exact Nat.le_refl _ | (simp; done) | omega | (simp; omega)) _))) (by omega)
  have tmA27 := tmA26.keep (show Below w26.heap.size w26 w27 by rw [hw27]; (repeat (first | exact Below.refl _ _ | assumption | refine Below.drew ?_ | refine bdrewN ?_ _ | refine Below.alloc ?_ (by first | exact Nat.le_refl _ | (simp; done) | omega | (simp; omega)) _ | refine Below.setCell ?_ (by first | exact Nat.le_refl _ | (simp; done) | omega | (simp; omega)) _))) (by omega)
  clear hw27
  clear cBA26 cXA26 tA26 tW26 tG26 tmA26
  refine (vars_impl _ _ _ _ _ _ tmA27 (by omega) ).mono ?_; rintro e w28 ⟨u28, rfl, f28, tq28⟩
  have b28 := b27.trans (f28.mono (by omega))
  have z28 := f28.size
  have cBA28 := cell_keep f28 cBA27
  have cXA28 := cell_keep f28 cXA27
  have tA28 := tA27.keep f28 (by omega)
  have tW28 := tW27.keep f28 (by omega)
  have tG28 := tG27.keep f28 (by omega)
  have tmA28 := tmA27.keep f28 (by omega)
  clear cBA27 cXA27 tA27 tW27 tG27 tmA27
  have tH28 := tq28; clear tq28
  obtain ⟨aH, kH, rfl, laH, baH⟩ := tH28.shape
  clear tmA28
  go_wp2_with fail
  refine name_call fun w29 hw29 => ?_
  have b29 : Below w.heap.size w w29 := by rw [hw29]; (repeat (first | exact Below.refl _ _ | assumption | refine Below.drew ?_ | refine bdrewN ?_ _ | refine Below.alloc ?_ (by first | exact Nat.le_refl _ | (simp; done) | omega | (simp; omega)) _ | refine Below.setCell ?_ (by first | exact Nat.le_refl _ | (simp; done) | omega | (simp; omega)) _))
  have z29 : w28.heap.size + 0 ≤ w29.heap.size := by rw [hw29]; simp
  have cBA29 : w29.cell? ⟨w.heap.size, 0, none⟩ = some (.slice aA tsA.length kA) := by rw [hw29]; first | exact cBA28 | exact cBA28
  have cXA29 : w29.cell? ⟨w8.heap.size, 0, none⟩ = some (.slice axA (tsA).length kxA) := by rw [hw29]; first | exact cXA28 | exact cXA28
  have tA29 := tA28.keep (show Below w28.heap.size w28 w29 by rw [hw29]; (repeat (first | exact Below.refl _ _ | assumption | refine Below.drew ?_ | refine bdrewN ?_ _ | refine Below.alloc ?_ (by first | exact Nat.le_refl _ | (simp; done) | omega | (simp; omega)) _ | refine Below.setCell ?_ (by first | exact Nat.le_refl _ | (simp; done) | omega | (simp; omega)) _))) (by omega)
  have tW29 := tW28.keep (show Below w28.heap.size w28 w29 by rw [hw29]; (repeat (first | exact Below.refl _ _ | assumption | refine Below.drew ?_ | refine bdrewN ?_ _ | refine Below.alloc ?_ (by first | exact Nat.le_refl _ | (simp; done) | omega | (simp; omega)) _ | refine Below.setCell ?_ (by first | exact Nat.le_refl _ | (simp; done) | omega | (simp; omega)) _))) (by omega)
  have tG29 := tG28.keep (show Below w28.heap.size w28 w29 by rw [hw29]; (repeat (first | exact Below.refl _ _ | assumption | refine Below.drew ?_ | refine bdrewN ?_ _ | refine Below.alloc ?_ (by first | exact Nat.le_refl _ | (simp; done) | omega | (simp; omega)) _ | refine Below.setCell ?_ (by first | exact Nat.le_refl _ | (simp; done) | omega | (simp; omega)) _))) (by omega)
  have tH29 := tH28.keep (show Below w28.heap.size w28 w29 by rw [hw29]; (repeat (first | exact Below.refl _ _ | assumption | refine Below.drew ?_ | refine bdrewN ?_ _ | refine Below.alloc ?_ (by first | exact Nat.le_refl _ | (simp; done) | omega | (simp; omega)) _ | refine Below.setCell ?_ (by first | exact Nat.le_refl _ | (simp; done) | omega | (simp; omega)) _))) (by omega)
  clear hw29
  clear cBA28 cXA28 tA28 tW28 tG28 tH28
  refine (eqNums_any _ _ _ _ _ _ _ _ _ _ _ tH29 tW29 (by omega) (by omega)).mono ?_; rw [dec_self]; rintro e w30 ⟨rfl, f30⟩
  have b30 := b29.trans (f30.mono (by omega))
  have z30 := f30.size
  have cBA30 := cell_keep f30 cBA29
  have cXA30 := cell_keep f30 cXA29
  have tA30 := tA29.keep f30 (by omega)
  have tW30 := tW29.keep f30 (by omega)
  have tG30 := tG29.keep f30 (by omega)
  have tH30 := tH29.keep f30 (by omega)
  clear cBA29 cXA29 tA29 tW29 tG29 tH29
  go_wp2_with fail
  refine name_call fun w31 hw31 => ?_
  have b31 : Below w.heap.size w w31 := by rw [hw31]; (repeat (first | exact Below.refl _ _ | assumption | refine Below.drew ?_ | refine bdrewN ?_ _ | refine Below.alloc ?_ (by first | exact Nat.le_refl _ | (simp; done) | omega | (simp; omega)) _ | refine Below.setCell ?_ (by first | exact Nat.le_refl _ | (simp; done) | omega | (simp; omega)) _))
  have z31 : w30.heap.size + 0 ≤ w31.heap.size := by rw [hw31]; simp
  have cBA31 : w31.cell? ⟨w.heap.size, 0, none⟩ = some (.slice aA tsA.length kA) := by rw [hw31]; first | exact cBA30 | exact cBA30
  have cXA31 : w31.cell? ⟨w8.heap.size, 0, none⟩ = some (.slice axA (tsA).length kxA) := by rw [hw31]; first | exact cXA30 | exact cXA30
  have tA31 := tA30.keep (show Below w30.heap.size w30 w31 by rw [hw31]; (repeat (first | exact Below.refl _ _ | assumption | refine Below.drew ?_ | refine bdrewN ?_ _ | refine Below.alloc ?_ (by first | exact Nat.le_refl _ | (simp; done) | omega | (simp; omega)) _ | refine Below.setCell ?_ (by first | exact Nat.le_refl _ | (simp; done) | omega | (simp; omega)) _))) (by omega)
  have tW31 := tW30.keep (show Below w30.heap.size w30 w31 by rw [hw31]; (repeat (first | exact Below.refl _ _ | assumption | refine Below.drew ?_ | refine bdrewN ?_ _ | refine Below.alloc ?_ (by first | exact Nat.le_refl _ | (simp; done) | omega | (simp; omega)) _ | refine Below.setCell ?_ (by first | exact Nat.le_refl _ | (simp; done) | omega | (simp; omega)) _))) (by omega)
  have tG31 := tG30.keep (show Below w30.heap.size w30 w31 by rw [hw31]; (repeat (first | exact Below.refl _ _ | assumption | refine Below.drew ?_ | refine bdrewN ?_ _ | refine Below.alloc ?_ (by first | exact Nat.le_refl _ | (simp; done) | omega | (simp; omega)) _ | refine Below.setCell ?_ (by first | exact Nat.le_refl _ | (simp; done) | omega | (simp; omega)) _))) (by omega)
  have tH31 := tH30.keep (show Below w30.heap.size w30 w31 by rw [hw31]; (repeat (first | exact Below.refl _ _ | assumption | refine Below.drew ?_ | refine bdrewN ?_ _ | refine Below.alloc ?_ (by first | exact Nat.le_refl _ | (simp; done) | omega | (simp; omega)) _ | refine Below.setCell ?_ (by first | exact Nat.le_refl _ | (simp; done) | omega | (simp; omega)) _))) (by omega)
  clear hw31
  clear cBA30 cXA30 tA30 tW30 tG30 tH30
  refine (heldNums_any _ _ _ _ _ 1 _ tG31 (by omega) (by omega) (by omega)).mono ?_; rintro e w32 ⟨rfl, f32⟩
  have b32 := b31.trans (f32.mono (by omega))
  have z32 := f32.size
  have cBA32 := cell_keep f32 cBA31
  have cXA32 := cell_keep f32 cXA31
  have tA32 := tA31.keep f32 (by omega)
  have tW32 := tW31.keep f32 (by omega)
  have tG32 := tG31.keep f32 (by omega)
  have tH32 := tH31.keep f32 (by omega)
  clear cBA31 cXA31 tA31 tW31 tG31 tH31
  go_wp2_with fail
  go_ret
  exact ⟨rfl, b32⟩
end Go.Proofs.Ytpobbdibkhledaa.L
