/- Exact laws of layer 2 (written by tools/genexact.py): the program's function and its model return the same, write into no argument, and own what they return. -/
import Derived.Test.YtpobbdibkhledaaConst
namespace Go.Proofs.Ytpobbdibkhledaa.L
open Go.RowKit Go.Proofs.Ytpobbdibkhledaa.S
set_option linter.unusedVariables false
set_option linter.unusedSimpArgs false

set_option maxRecDepth 100000 in
set_option maxHeartbeats 6400000 in
theorem law_FnExactConst (k : Int) (w : World) (k0 : -9223372036854775808 ≤ k) (k1 : k ≤ 9223372036854775807) :
    Calls Try.prog 7 #[.int .i64 k] w fun e w' => e = .returned (.bool true) ∧ Below w.heap.size w w' := by
  have hlenF : (constOf k).length ≤ 4194304 := Nat.le_trans (constOf_len k) (by omega)
  go_enter Try.func7, Try.ntmps7
  go_wp2_with fail
  refine name_call fun w1 hw1 => ?_
  have b1 : Below w.heap.size w w1 := by rw [hw1]; (repeat (first | exact Below.refl _ _ | assumption | refine Below.drew ?_ | refine bdrewN ?_ _ | refine Below.alloc ?_ (by first | exact Nat.le_refl _ | (simp; done) | omega | (simp; omega)) _ | refine Below.setCell ?_ (by first | exact Nat.le_refl _ | (simp; done) | omega | (simp; omega)) _))
  have z1 : w.heap.size + 0 ≤ w1.heap.size := by rw [hw1]; simp
  clear hw1
  go_wp2_with fail
  refine name_call fun w2 hw2 => ?_
  have b2 : Below w.heap.size w w2 := by rw [hw2]; (repeat (first | exact Below.refl _ _ | assumption | refine Below.drew ?_ | refine bdrewN ?_ _ | refine Below.alloc ?_ (by first | exact Nat.le_refl _ | (simp; done) | omega | (simp; omega)) _ | refine Below.setCell ?_ (by first | exact Nat.le_refl _ | (simp; done) | omega | (simp; omega)) _))
  have z2 : w1.heap.size + 0 ≤ w2.heap.size := by rw [hw2]; simp
  clear hw2
  refine (const_spec k _  k0 k1).mono ?_; rintro e w3 ⟨u3, rfl, f3, tq3⟩
  have b3 := b2.trans (f3.mono (by omega))
  have z3 := f3.size
  have tW3 := tq3; clear tq3
  obtain ⟨aW, kW, rfl, laW, baW⟩ := tW3.shape
  go_wp2_with fail
  refine name_call fun w4 hw4 => ?_
  have b4 : Below w.heap.size w w4 := by rw [hw4]; (repeat (first | exact Below.refl _ _ | assumption | refine Below.drew ?_ | refine bdrewN ?_ _ | refine Below.alloc ?_ (by first | exact Nat.le_refl _ | (simp; done) | omega | (simp; omega)) _ | refine Below.setCell ?_ (by first | exact Nat.le_refl _ | (simp; done) | omega | (simp; omega)) _))
  have z4 : w3.heap.size + 1 ≤ w4.heap.size := by rw [hw4]; simp
  have cW4 : w4.cell? ⟨w3.heap.size, 0, none⟩ = some (.slice aW (constOf k).length kW) := by rw [hw4]; simp
  have tW4 := tW3.keep (show Below w3.heap.size w3 w4 by rw [hw4]; (repeat (first | exact Below.refl _ _ | assumption | refine Below.drew ?_ | refine bdrewN ?_ _ | refine Below.alloc ?_ (by first | exact Nat.le_refl _ | (simp; done) | omega | (simp; omega)) _ | refine Below.setCell ?_ (by first | exact Nat.le_refl _ | (simp; done) | omega | (simp; omega)) _))) (by omega)
  clear hw4
  clear tW3
  refine (const_impl k _  k0 k1).mono ?_; rintro e w5 ⟨u5, rfl, f5, tq5⟩
  have b5 := b4.trans (f5.mono (by omega))
  have z5 := f5.size
  have cW5 := cell_keep f5 cW4
  have tW5 := tW4.keep f5 (by omega)
  clear cW4 tW4
  have tG5 := tq5; clear tq5
  obtain ⟨aG, kG, rfl, laG, baG⟩ := tG5.shape
  have lW5 : w3.heap.size < w5.heap.size := by omega
  go_wp2_with fail
  refine name_call fun w6 hw6 => ?_
  clear lW5
  have b6 : Below w.heap.size w w6 := by rw [hw6]; (repeat (first | exact Below.refl _ _ | assumption | refine Below.drew ?_ | refine bdrewN ?_ _ | refine Below.alloc ?_ (by first | exact Nat.le_refl _ | (simp; done) | omega | (simp; omega)) _ | refine Below.setCell ?_ (by first | exact Nat.le_refl _ | (simp; done) | omega | (simp; omega)) _))
  have z6 : w5.heap.size + 1 ≤ w6.heap.size := by rw [hw6]; simp
  have cW6 : w6.cell? ⟨w3.heap.size, 0, none⟩ = some (.slice aW (constOf k).length kW) := by rw [hw6]; first | exact cW5 | exact alloc_keep (cW5)
  have cG6 : w6.cell? ⟨w5.heap.size, 0, none⟩ = some (.slice aG (constOf k).length kG) := by rw [hw6]; simp
  have tW6 := tW5.keep (show Below w5.heap.size w5 w6 by rw [hw6]; (repeat (first | exact Below.refl _ _ | assumption | refine Below.drew ?_ | refine bdrewN ?_ _ | refine Below.alloc ?_ (by first | exact Nat.le_refl _ | (simp; done) | omega | (simp; omega)) _ | refine Below.setCell ?_ (by first | exact Nat.le_refl _ | (simp; done) | omega | (simp; omega)) _))) (by omega)
  have tG6 := tG5.keep (show Below w5.heap.size w5 w6 by rw [hw6]; (repeat (first | exact Below.refl _ _ | assumption | refine Below.drew ?_ | refine bdrewN ?_ _ | refine Below.alloc ?_ (by first | exact Nat.le_refl _ | (simp; done) | omega | (simp; omega)) _ | refine Below.setCell ?_ (by first | exact Nat.le_refl _ | (simp; done) | omega | (simp; omega)) _))) (by omega)
  clear hw6
  clear cW5 tW5 tG5
  refine (eqLin_any _ _ _ _ _ _ _ _ _ _ _ tG6 tW6 (by omega) (by omega)).mono ?_; rw [dec_self]; rintro e w7 ⟨rfl, f7⟩
  have b7 := b6.trans (f7.mono (by omega))
  have z7 := f7.size
  have cW7 := cell_keep f7 cW6
  have cG7 := cell_keep f7 cG6
  have tW7 := tW6.keep f7 (by omega)
  have tG7 := tG6.keep f7 (by omega)
  clear cW6 cG6 tW6 tG6
  go_wp2_with fail
  refine name_call fun w8 hw8 => ?_
  have b8 : Below w.heap.size w w8 := by rw [hw8]; (repeat (first | exact Below.refl _ _ | assumption | refine Below.drew ?_ | refine bdrewN ?_ _ | refine Below.alloc ?_ (by first | exact Nat.le_refl _ | (simp; done) | omega | (simp; omega)) _ | refine Below.setCell ?_ (by first | exact Nat.le_refl _ | (simp; done) | omega | (simp; omega)) _))
  have z8 : w7.heap.size + 0 ≤ w8.heap.size := by rw [hw8]; simp
  have cW8 : w8.cell? ⟨w3.heap.size, 0, none⟩ = some (.slice aW (constOf k).length kW) := by rw [hw8]; first | exact cW7 | exact cW7
  have cG8 : w8.cell? ⟨w5.heap.size, 0, none⟩ = some (.slice aG (constOf k).length kG) := by rw [hw8]; first | exact cG7 | exact cG7
  have tW8 := tW7.keep (show Below w7.heap.size w7 w8 by rw [hw8]; (repeat (first | exact Below.refl _ _ | assumption | refine Below.drew ?_ | refine bdrewN ?_ _ | refine Below.alloc ?_ (by first | exact Nat.le_refl _ | (simp; done) | omega | (simp; omega)) _ | refine Below.setCell ?_ (by first | exact Nat.le_refl _ | (simp; done) | omega | (simp; omega)) _))) (by omega)
  have tG8 := tG7.keep (show Below w7.heap.size w7 w8 by rw [hw8]; (repeat (first | exact Below.refl _ _ | assumption | refine Below.drew ?_ | refine bdrewN ?_ _ | refine Below.alloc ?_ (by first | exact Nat.le_refl _ | (simp; done) | omega | (simp; omega)) _ | refine Below.setCell ?_ (by first | exact Nat.le_refl _ | (simp; done) | omega | (simp; omega)) _))) (by omega)
  clear hw8
  clear cW7 cG7 tW7 tG7
  refine (markLin_any _ _ _ _ (1) w8 tG8 (by omega) (by omega) (by omega)).mono ?_; rintro e w9 ⟨rfl, f9, tq9⟩
  have b9 := b8.trans (f9.below (by omega) (by omega))
  have z9 := f9.size
  have cW9 := (f9.cell (b := w3.heap.size) (by omega) (by omega) 0).trans cW8
  have cG9 := (f9.cell (b := w5.heap.size) (by omega) (by omega) 0).trans cG8
  have tW9 := tW8.only f9 (by omega) (by omega)
  have tG9 := tq9; clear tq9
  clear cW8 cG8 tW8 tG8
  go_wp2_with fail
  refine name_call fun w10 hw10 => ?_
  have b10 : Below w.heap.size w w10 := by rw [hw10]; (repeat (first | exact Below.refl _ _ | assumption | refine Below.drew ?_ | refine bdrewN ?_ _ | refine Below.alloc ?_ (by first | exact Nat.le_refl _ | (simp; done) | omega | (simp; omega)) _ | refine Below.setCell ?_ (by first | exact Nat.le_refl _ | (simp; done) | omega | (simp; omega)) _))
  have z10 : w9.heap.size + 0 ≤ w10.heap.size := by rw [hw10]; simp
  have cW10 : w10.cell? ⟨w3.heap.size, 0, none⟩ = some (.slice aW (constOf k).length kW) := by rw [hw10]; first | exact cW9 | exact cW9
  have cG10 : w10.cell? ⟨w5.heap.size, 0, none⟩ = some (.slice aG (constOf k).length kG) := by rw [hw10]; first | exact cG9 | exact cG9
  have tW10 := tW9.keep (show Below w9.heap.size w9 w10 by rw [hw10]; (repeat (first | exact Below.refl _ _ | assumption | refine Below.drew ?_ | refine bdrewN ?_ _ | refine Below.alloc ?_ (by first | exact Nat.le_refl _ | (simp; done) | omega | (simp; omega)) _ | refine Below.setCell ?_ (by first | exact Nat.le_refl _ | (simp; done) | omega | (simp; omega)) _))) (by omega)
  have tG10 := tG9.keep (show Below w9.heap.size w9 w10 by rw [hw10]; (repeat (first | exact Below.refl _ _ | assumption | refine Below.drew ?_ | refine bdrewN ?_ _ | refine Below.alloc ?_ (by first | exact Nat.le_refl _ | (simp; done) | omega | (simp; omega)) _ | refine Below.setCell ?_ (by first | exact Nat.le_refl _ | (simp; done) | omega | (simp; omega)) _))) (by omega)
  clear hw10
  clear cW9 cG9 tW9 tG9
  refine (heldLin_any _ _ _ _ _ 1 _ tG10 (by omega) (by omega) (by omega)).mono ?_; rintro e w11 ⟨rfl, f11⟩
  have b11 := b10.trans (f11.mono (by omega))
  have z11 := f11.size
  have cW11 := cell_keep f11 cW10
  have cG11 := cell_keep f11 cG10
  have tW11 := tW10.keep f11 (by omega)
  have tG11 := tG10.keep f11 (by omega)
  clear cW10 cG10 tW10 tG10
  go_wp2_with fail
  refine name_call fun w12 hw12 => ?_
  have b12 : Below w.heap.size w w12 := by rw [hw12]; (repeat (first | exact Below.refl _ _ | assumption | refine Below.drew ?_ | refine bdrewN ?_ _ | refine Below.alloc ?_ (by first | exact Nat.le_refl _ | (simp; done) | omega | (simp; omega)) _ | refine Below.setCell ?_ (by first | exact Nat.le_refl _ | (simp; done) | omega | (simp; omega)) _))
  have z12 : w11.heap.size + 0 ≤ w12.heap.size := by rw [hw12]; simp
  have cW12 : w12.cell? ⟨w3.heap.size, 0, none⟩ = some (.slice aW (constOf k).length kW) := by rw [hw12]; first | exact cW11 | exact cW11
  have cG12 : w12.cell? ⟨w5.heap.size, 0, none⟩ = some (.slice aG (constOf k).length kG) := by rw [hw12]; first | exact cG11 | exact cG11
  have tW12 := tW11.keep (show Below w11.heap.size w11 w12 by rw [hw12]; (repeat (first | exact Below.refl _ _ | assumption | refine Below.drew ?_ | refine bdrewN ?_ _ | refine Below.alloc ?_ (by first | exact Nat.le_refl _ | (simp; done) | omega | (simp; omega)) _ | refine Below.setCell ?_ (by first | exact Nat.le_refl _ | (simp; done) | omega | (simp; omega)) _))) (by omega)
  have tG12 := tG11.keep (show Below w11.heap.size w11 w12 by rw [hw12]; (repeat (first | exact Below.refl _ _ | assumption | refine Below.drew ?_ | refine bdrewN ?_ _ | refine Below.alloc ?_ (by first | exact Nat.le_refl _ | (simp; done) | omega | (simp; omega)) _ | refine Below.setCell ?_ (by first | exact Nat.le_refl _ | (simp; done) | omega | (simp; omega)) _))) (by omega)
  clear hw12
  clear cW11 cG11 tW11 tG11
  refine (const_impl k _  k0 k1).mono ?_; rintro e w13 ⟨u13, rfl, f13, tq13⟩
  have b13 := b12.trans (f13.mono (by omega))
  have z13 := f13.size
  have cW13 := cell_keep f13 cW12
  have cG13 := cell_keep f13 cG12
  have tW13 := tW12.keep f13 (by omega)
  have tG13 := tG12.keep f13 (by omega)
  clear cW12 cG12 tW12 tG12
  have tH13 := tq13; clear tq13
  obtain ⟨aH, kH, rfl, laH, baH⟩ := tH13.shape
  have lW13 : w3.heap.size < w13.heap.size := by omega
  have lG13 : w5.heap.size < w13.heap.size := by omega
  go_wp2_with fail
  refine name_call fun w14 hw14 => ?_
  clear lW13 lG13
  have b14 : Below w.heap.size w w14 := by rw [hw14]; (repeat (first | exact Below.refl _ _ | assumption | refine Below.drew ?_ | refine bdrewN ?_ _ | refine Below.alloc ?_ (by first | exact Nat.le_refl _ | (simp; done) | omega | (simp; omega)) _ | refine Below.setCell ?_ (by first | exact Nat.le_refl _ | (simp; done) | omega | (simp; omega)) _))
  have z14 : w13.heap.size + 1 ≤ w14.heap.size := by rw [hw14]; simp
  have cW14 : w14.cell? ⟨w3.heap.size, 0, none⟩ = some (.slice aW (constOf k).length kW) := by rw [hw14]; first | exact cW13 | exact alloc_keep (cW13)
  have cG14 : w14.cell? ⟨w5.heap.size, 0, none⟩ = some (.slice aG (constOf k).length kG) := by rw [hw14]; first | exact cG13 | exact alloc_keep (cG13)
  have cH14 : w14.cell? ⟨w13.heap.size, 0, none⟩ = some (.slice aH (constOf k).length kH) := by rw [hw14]; simp
  have tW14 := tW13.keep (show Below w13.heap.size w13 w14 by rw [hw14]; (repeat (first | exact Below.refl _ _ | assumption | refine Below.drew ?_ | refine bdrewN ?_ _ | refine Below.alloc ?_ (by first | exact Nat.le_refl _ | (simp; done) | omega | (simp; omega)) _ | refine Below.setCell ?_ (by first | exact Nat.le_refl _ | (simp; done) | omega | (simp; omega)) _))) (by omega)
  have tG14 := tG13.keep (show Below w13.heap.size w13 w14 by rw [hw14]; (repeat (first | exact Below.refl _ _ | assumption | refine Below.drew ?_ | refine bdrewN ?_ _ | refine Below.alloc ?_ (by first | exact Nat.le_refl _ | (simp; done) | omega | (simp; omega)) _ | refine Below.setCell ?_ (by first | exact Nat.le_refl _ | (simp; done) | omega | (simp; omega)) _))) (by omega)
  have tH14 := tH13.keep (show Below w13.heap.size w13 w14 by rw [hw14]; (repeat (first | exact Below.refl _ _ | assumption | refine Below.drew ?_ | refine bdrewN ?_ _ | refine Below.alloc ?_ (by first | exact Nat.le_refl _ | (simp; done) | omega | (simp; omega)) _ | refine Below.setCell ?_ (by first | exact Nat.le_refl _ | (simp; done) | omega | (simp; omega)) _))) (by omega)
  clear hw14
  clear cW13 cG13 tW13 tG13 tH13
  refine (eqLin_any _ _ _ _ _ _ _ _ _ _ _ tH14 tW14 (by omega) (by omega)).mono ?_; rw [dec_self]; rintro e w15 ⟨rfl, f15⟩
  have b15 := b14.trans (f15.mono (by omega))
  have z15 := f15.size
  have cW15 := cell_keep f15 cW14
  have cG15 := cell_keep f15 cG14
  have cH15 := cell_keep f15 cH14
  have tW15 := tW14.keep f15 (by omega)
  have tG15 := tG14.keep f15 (by omega)
  have tH15 := tH14.keep f15 (by omega)
  clear cW14 cG14 cH14 tW14 tG14 tH14
  go_wp2_with fail
  refine name_call fun w16 hw16 => ?_
  have b16 : Below w.heap.size w w16 := by rw [hw16]; (repeat (first | exact Below.refl _ _ | assumption | refine Below.drew ?_ | refine bdrewN ?_ _ | refine Below.alloc ?_ (by first | exact Nat.le_refl _ | (simp; done) | omega | (simp; omega)) _ | refine Below.setCell ?_ (by first | exact Nat.le_refl _ | (simp; done) | omega | (simp; omega)) _))
  have z16 : w15.heap.size + 0 ≤ w16.heap.size := by rw [hw16]; simp
  have cW16 : w16.cell? ⟨w3.heap.size, 0, none⟩ = some (.slice aW (constOf k).length kW) := by rw [hw16]; first | exact cW15 | exact cW15
  have cG16 : w16.cell? ⟨w5.heap.size, 0, none⟩ = some (.slice aG (constOf k).length kG) := by rw [hw16]; first | exact cG15 | exact cG15
  have cH16 : w16.cell? ⟨w13.heap.size, 0, none⟩ = some (.slice aH (constOf k).length kH) := by rw [hw16]; first | exact cH15 | exact cH15
  have tW16 := tW15.keep (show Below w15.heap.size w15 w16 by rw [hw16]; (repeat (first | exact Below.refl _ _ | assumption | refine Below.drew ?_ | refine bdrewN ?_ _ | refine Below.alloc ?_ (by first | exact Nat.le_refl _ | (simp; done) | omega | (simp; omega)) _ | refine Below.setCell ?_ (by first | exact Nat.le_refl _ | (simp; done) | omega | (simp; omega)) _))) (by omega)
  have tG16 := tG15.keep (show Below w15.heap.size w15 w16 by rw [hw16]; (repeat (first | exact Below.refl _ _ | assumption | refine Below.drew ?_ | refine bdrewN ?_ _ | refine Below.alloc ?_ (by first | exact Nat.le_refl _ | (simp; done) | omega | (simp; omega)) _ | refine Below.setCell ?_ (by first | exact Nat.le_refl _ | (simp; done) | omega | (simp; omega)) _))) (by omega)
  have tH16 := tH15.keep (show Below w15.heap.size w15 w16 by rw [hw16]; (repeat (first | exact Below.refl _ _ | assumption | refine Below.drew ?_ | refine bdrewN ?_ _ | refine Below.alloc ?_ (by first | exact Nat.le_refl _ | (simp; done) | omega | (simp; omega)) _ | refine Below.setCell ?_ (by first | exact Nat.le_refl _ | (simp; done) | omega | (simp; omega)) _))) (by omega)
  clear hw16
  clear cW15 cG15 cH15 tW15 tG15 tH15
  refine (heldLin_any _ _ _ _ _ 1 _ tG16 (by omega) (by omega) (by omega)).mono ?_; rintro e w17 ⟨rfl, f17⟩
  have b17 := b16.trans (f17.mono (by omega))
  have z17 := f17.size
  have cW17 := cell_keep f17 cW16
  have cG17 := cell_keep f17 cG16
  have cH17 := cell_keep f17 cH16
  have tW17 := tW16.keep f17 (by omega)
  have tG17 := tG16.keep f17 (by omega)
  have tH17 := tH16.keep f17 (by omega)
  clear cW16 cG16 cH16 tW16 tG16 tH16
  go_wp2_with fail
  go_ret
  exact ⟨rfl, b17⟩

set_option maxRecDepth 100000 in
set_option maxHeartbeats 6400000 in
theorem law_FnExactVarOf (v : Int) (w : World) (v0 : -9223372036854775808 ≤ v) (v1 : v ≤ 9223372036854775807) :
    Calls Try.prog 8 #[.int .i64 v] w fun e w' => e = .returned (.bool true) ∧ Below w.heap.size w w' := by
  have hlenF : (varOf v).length ≤ 4194304 := Nat.le_trans (varOf_len v) (by omega)
  go_enter Try.func8, Try.ntmps8
  go_wp2_with fail
  refine name_call fun w1 hw1 => ?_
  have b1 : Below w.heap.size w w1 := by rw [hw1]; (repeat (first | exact Below.refl _ _ | assumption | refine Below.drew ?_ | refine bdrewN ?_ _ | refine Below.alloc ?_ (by first | exact Nat.le_refl _ | (simp; done) | omega | (simp; omega)) _ | refine Below.setCell ?_ (by first | exact Nat.le_refl _ | (simp; done) | omega | (simp; omega)) _))
  have z1 : w.heap.size + 0 ≤ w1.heap.size := by rw [hw1]; simp
  clear hw1
  go_wp2_with fail
  refine name_call fun w2 hw2 => ?_
  have b2 : Below w.heap.size w w2 := by rw [hw2]; (repeat (first | exact Below.refl _ _ | assumption | refine Below.drew ?_ | refine bdrewN ?_ _ | refine Below.alloc ?_ (by first | exact Nat.le_refl _ | (simp; done) | omega | (simp; omega)) _ | refine Below.setCell ?_ (by first | exact Nat.le_refl _ | (simp; done) | omega | (simp; omega)) _))
  have z2 : w1.heap.size + 0 ≤ w2.heap.size := by rw [hw2]; simp
  clear hw2
  refine (varOf_spec v _  v0 v1).mono ?_; rintro e w3 ⟨u3, rfl, f3, tq3⟩
  have b3 := b2.trans (f3.mono (by omega))
  have z3 := f3.size
  have tW3 := tq3; clear tq3
  obtain ⟨aW, kW, rfl, laW, baW⟩ := tW3.shape
  go_wp2_with fail
  refine name_call fun w4 hw4 => ?_
  have b4 : Below w.heap.size w w4 := by rw [hw4]; (repeat (first | exact Below.refl _ _ | assumption | refine Below.drew ?_ | refine bdrewN ?_ _ | refine Below.alloc ?_ (by first | exact Nat.le_refl _ | (simp; done) | omega | (simp; omega)) _ | refine Below.setCell ?_ (by first | exact Nat.le_refl _ | (simp; done) | omega | (simp; omega)) _))
  have z4 : w3.heap.size + 1 ≤ w4.heap.size := by rw [hw4]; simp
  have cW4 : w4.cell? ⟨w3.heap.size, 0, none⟩ = some (.slice aW (varOf v).length kW) := by rw [hw4]; simp
  have tW4 := tW3.keep (show Below w3.heap.size w3 w4 by rw [hw4]; (repeat (first | exact Below.refl _ _ | assumption | refine Below.drew ?_ | refine bdrewN ?_ _ | refine Below.alloc ?_ (by first | exact Nat.le_refl _ | (simp; done) | omega | (simp; omega)) _ | refine Below.setCell ?_ (by first | exact Nat.le_refl _ | (simp; done) | omega | (simp; omega)) _))) (by omega)
  clear hw4
  clear tW3
  refine (varOf_impl v _  v0 v1).mono ?_; rintro e w5 ⟨u5, rfl, f5, tq5⟩
  have b5 := b4.trans (f5.mono (by omega))
  have z5 := f5.size
  have cW5 := cell_keep f5 cW4
  have tW5 := tW4.keep f5 (by omega)
  clear cW4 tW4
  have tG5 := tq5; clear tq5
  obtain ⟨aG, kG, rfl, laG, baG⟩ := tG5.shape
  have lW5 : w3.heap.size < w5.heap.size := by omega
  go_wp2_with fail
  refine name_call fun w6 hw6 => ?_
  clear lW5
  have b6 : Below w.heap.size w w6 := by rw [hw6]; (repeat (first | exact Below.refl _ _ | assumption | refine Below.drew ?_ | refine bdrewN ?_ _ | refine Below.alloc ?_ (by first | exact Nat.le_refl _ | (simp; done) | omega | (simp; omega)) _ | refine Below.setCell ?_ (by first | exact Nat.le_refl _ | (simp; done) | omega | (simp; omega)) _))
  have z6 : w5.heap.size + 1 ≤ w6.heap.size := by rw [hw6]; simp
  have cW6 : w6.cell? ⟨w3.heap.size, 0, none⟩ = some (.slice aW (varOf v).length kW) := by rw [hw6]; first | exact cW5 | exact alloc_keep (cW5)
  have cG6 : w6.cell? ⟨w5.heap.size, 0, none⟩ = some (.slice aG (varOf v).length kG) := by rw [hw6]; simp
  have tW6 := tW5.keep (show Below w5.heap.size w5 w6 by rw [hw6]; (repeat (first | exact Below.refl _ _ | assumption | refine Below.drew ?_ | refine bdrewN ?_ _ | refine Below.alloc ?_ (by first | exact Nat.le_refl _ | (simp; done) | omega | (simp; omega)) _ | refine Below.setCell ?_ (by first | exact Nat.le_refl _ | (simp; done) | omega | (simp; omega)) _))) (by omega)
  have tG6 := tG5.keep (show Below w5.heap.size w5 w6 by rw [hw6]; (repeat (first | exact Below.refl _ _ | assumption | refine Below.drew ?_ | refine bdrewN ?_ _ | refine Below.alloc ?_ (by first | exact Nat.le_refl _ | (simp; done) | omega | (simp; omega)) _ | refine Below.setCell ?_ (by first | exact Nat.le_refl _ | (simp; done) | omega | (simp; omega)) _))) (by omega)
  clear hw6
  clear cW5 tW5 tG5
  refine (eqLin_any _ _ _ _ _ _ _ _ _ _ _ tG6 tW6 (by omega) (by omega)).mono ?_; rw [dec_self]; rintro e w7 ⟨rfl, f7⟩
  have b7 := b6.trans (f7.mono (by omega))
  have z7 := f7.size
  have cW7 := cell_keep f7 cW6
  have cG7 := cell_keep f7 cG6
  have tW7 := tW6.keep f7 (by omega)
  have tG7 := tG6.keep f7 (by omega)
  clear cW6 cG6 tW6 tG6
  go_wp2_with fail
  refine name_call fun w8 hw8 => ?_
  have b8 : Below w.heap.size w w8 := by rw [hw8]; (repeat (first | exact Below.refl _ _ | assumption | refine Below.drew ?_ | refine bdrewN ?_ _ | refine Below.alloc ?_ (by first | exact Nat.le_refl _ | (simp; done) | omega | (simp; omega)) _ | refine Below.setCell ?_ (by first | exact Nat.le_refl _ | (simp; done) | omega | (simp; omega)) _))
  have z8 : w7.heap.size + 0 ≤ w8.heap.size := by rw [hw8]; simp
  have cW8 : w8.cell? ⟨w3.heap.size, 0, none⟩ = some (.slice aW (varOf v).length kW) := by rw [hw8]; first | exact cW7 | exact cW7
  have cG8 : w8.cell? ⟨w5.heap.size, 0, none⟩ = some (.slice aG (varOf v).length kG) := by rw [hw8]; first | exact cG7 | exact cG7
  have tW8 := tW7.keep (show Below w7.heap.size w7 w8 by rw [hw8]; (repeat (first | exact Below.refl _ _ | assumption | refine Below.drew ?_ | refine bdrewN ?_ _ | refine Below.alloc ?_ (by first | exact Nat.le_refl _ | (simp; done) | omega | (simp; omega)) _ | refine Below.setCell ?_ (by first | exact Nat.le_refl _ | (simp; done) | omega | (simp; omega)) _))) (by omega)
  have tG8 := tG7.keep (show Below w7.heap.size w7 w8 by rw [hw8]; (repeat (first | exact Below.refl _ _ | assumption | refine Below.drew ?_ | refine bdrewN ?_ _ | refine Below.alloc ?_ (by first | exact Nat.le_refl _ | (simp; done) | omega | (simp; omega)) _ | refine Below.setCell ?_ (by first | exact Nat.le_refl _ | (simp; done) | omega | (simp; omega)) _))) (by omega)
  clear hw8
  clear cW7 cG7 tW7 tG7
  refine (markLin_any _ _ _ _ (1) w8 tG8 (by omega) (by omega) (by omega)).mono ?_; rintro e w9 ⟨rfl, f9, tq9⟩
  have b9 := b8.trans (f9.below (by omega) (by omega))
  have z9 := f9.size
  have cW9 := (f9.cell (b := w3.heap.size) (by omega) (by omega) 0).trans cW8
  have cG9 := (f9.cell (b := w5.heap.size) (by omega) (by omega) 0).trans cG8
  have tW9 := tW8.only f9 (by omega) (by omega)
  have tG9 := tq9; clear tq9
  clear cW8 cG8 tW8 tG8
  go_wp2_with fail
  refine name_call fun w10 hw10 => ?_
  have b10 : Below w.heap.size w w10 := by rw [hw10]; (repeat (first | exact Below.refl _ _ | assumption | refine Below.drew ?_ | refine bdrewN ?_ _ | refine Below.alloc ?_ (by first | exact Nat.le_refl _ | (simp; done) | omega | (simp; omega)) _ | refine Below.setCell ?_ (by first | exact Nat.le_refl _ | (simp; done) | omega | (simp; omega)) _))
  have z10 : w9.heap.size + 0 ≤ w10.heap.size := by rw [hw10]; simp
  have cW10 : w10.cell? ⟨w3.heap.size, 0, none⟩ = some (.slice aW (varOf v).length kW) := by rw [hw10]; first | exact cW9 | exact cW9
  have cG10 : w10.cell? ⟨w5.heap.size, 0, none⟩ = some (.slice aG (varOf v).length kG) := by rw [hw10]; first | exact cG9 | exact cG9
  have tW10 := tW9.keep (show Below w9.heap.size w9 w10 by rw [hw10]; (repeat (first | exact Below.refl _ _ | assumption | refine Below.drew ?_ | refine bdrewN ?_ _ | refine Below.alloc ?_ (by first | exact Nat.le_refl _ | (simp; done) | omega | (simp; omega)) _ | refine Below.setCell ?_ (by first | exact Nat.le_refl _ | (simp; done) | omega | (simp; omega)) _))) (by omega)
  have tG10 := tG9.keep (show Below w9.heap.size w9 w10 by rw [hw10]; (repeat (first | exact Below.refl _ _ | assumption | refine Below.drew ?_ | refine bdrewN ?_ _ | refine Below.alloc ?_ (by first | exact Nat.le_refl _ | (simp; done) | omega | (simp; omega)) _ | refine Below.setCell ?_ (by first | exact Nat.le_refl _ | (simp; done) | omega | (simp; omega)) _))) (by omega)
  clear hw10
  clear cW9 cG9 tW9 tG9
  refine (heldLin_any _ _ _ _ _ 1 _ tG10 (by omega) (by omega) (by omega)).mono ?_; rintro e w11 ⟨rfl, f11⟩
  have b11 := b10.trans (f11.mono (by omega))
  have z11 := f11.size
  have cW11 := cell_keep f11 cW10
  have cG11 := cell_keep f11 cG10
  have tW11 := tW10.keep f11 (by omega)
  have tG11 := tG10.keep f11 (by omega)
  clear cW10 cG10 tW10 tG10
  go_wp2_with fail
  refine name_call fun w12 hw12 => ?_
  have b12 : Below w.heap.size w w12 := by rw [hw12]; (repeat (first | exact Below.refl _ _ | assumption | refine Below.drew ?_ | refine bdrewN ?_ _ | refine Below.alloc ?_ (by first | exact Nat.le_refl _ | (simp; done) | omega | (simp; omega)) _ | refine Below.setCell ?_ (by first | exact Nat.le_refl _ | (simp; done) | omega | (simp; omega)) _))
  have z12 : w11.heap.size + 0 ≤ w12.heap.size := by rw [hw12]; simp
  have cW12 : w12.cell? ⟨w3.heap.size, 0, none⟩ = some (.slice aW (varOf v).length kW) := by rw [hw12]; first | exact cW11 | exact cW11
  have cG12 : w12.cell? ⟨w5.heap.size, 0, none⟩ = some (.slice aG (varOf v).length kG) := by rw [hw12]; first | exact cG11 | exact cG11
  have tW12 := tW11.keep (show Below w11.heap.size w11 w12 by rw [hw12]; (repeat (first | exact Below.refl _ _ | assumption | refine Below.drew ?_ | refine bdrewN ?_ _ | refine Below.alloc ?_ (by first | exact Nat.le_refl _ | (simp; done) | omega | (simp; omega)) _ | refine Below.setCell ?_ (by first | exact Nat.le_refl _ | (simp; done) | omega | (simp; omega)) _))) (by omega)
  have tG12 := tG11.keep (show Below w11.heap.size w11 w12 by rw [hw12]; (repeat (first | exact Below.refl _ _ | assumption | refine Below.drew ?_ | refine bdrewN ?_ _ | refine Below.alloc ?_ (by first | exact Nat.le_refl _ | (simp; done) | omega | (simp; omega)) _ | refine Below.setCell ?_ (by first | exact Nat.le_refl _ | (simp; done) | omega | (simp; omega)) _))) (by omega)
  clear hw12
  clear cW11 cG11 tW11 tG11
  refine (varOf_impl v _  v0 v1).mono ?_; rintro e w13 ⟨u13, rfl, f13, tq13⟩
  have b13 := b12.trans (f13.mono (by omega))
  have z13 := f13.size
  have cW13 := cell_keep f13 cW12
  have cG13 := cell_keep f13 cG12
  have tW13 := tW12.keep f13 (by omega)
  have tG13 := tG12.keep f13 (by omega)
  clear cW12 cG12 tW12 tG12
  have tH13 := tq13; clear tq13
  obtain ⟨aH, kH, rfl, laH, baH⟩ := tH13.shape
  have lW13 : w3.heap.size < w13.heap.size := by omega
  have lG13 : w5.heap.size < w13.heap.size := by omega
  go_wp2_with fail
  refine name_call fun w14 hw14 => ?_
  clear lW13 lG13
  have b14 : Below w.heap.size w w14 := by rw [hw14]; (repeat (first | exact Below.refl _ _ | assumption | refine Below.drew ?_ | refine bdrewN ?_ _ | refine Below.alloc ?_ (by first | exact Nat.le_refl _ | (simp; done) | omega | (simp; omega)) _ | refine Below.setCell ?_ (by first | exact Nat.le_refl _ | (simp; done) | omega | (simp; omega)) _))
  have z14 : w13.heap.size + 1 ≤ w14.heap.size := by rw [hw14]; simp
  have cW14 : w14.cell? ⟨w3.heap.size, 0, none⟩ = some (.slice aW (varOf v).length kW) := by rw [hw14]; first | exact cW13 | exact alloc_keep (cW13)
  have cG14 : w14.cell? ⟨w5.heap.size, 0, none⟩ = some (.slice aG (varOf v).length kG) := by rw [hw14]; first | exact cG13 | exact alloc_keep (cG13)
  have cH14 : w14.cell? ⟨w13.heap.size, 0, none⟩ = some (.slice aH (varOf v).length kH) := by rw [hw14]; simp
  have tW14 := tW13.keep (show Below w13.heap.size w13 w14 by rw [hw14]; (repeat (first | exact Below.refl _ _ | assumption | refine Below.drew ?_ | refine bdrewN ?_ _ | refine Below.alloc ?_ (by first | exact Nat.le_refl _ | (simp; done) | omega | (simp; omega)) _ | refine Below.setCell ?_ (by first | exact Nat.le_refl _ | (simp; done) | omega | (simp; omega)) _))) (by omega)
  have tG14 := tG13.keep (show Below w13.heap.size w13 w14 by rw [hw14]; (repeat (first | exact Below.refl _ _ | assumption | refine Below.drew ?_ | refine bdrewN ?_ _ | refine Below.alloc ?_ (by first | exact Nat.le_refl _ | (simp; done) | omega | (simp; omega)) _ | refine Below.setCell ?_ (by first | exact Nat.le_refl _ | (simp; done) | omega | (simp; omega)) _))) (by omega)
  have tH14 := tH13.keep (show Below w13.heap.size w13 w14 by rw [hw14]; (repeat (first | exact Below.refl _ _ | assumption | refine Below.drew ?_ | refine bdrewN ?_ _ | refine Below.alloc ?_ (by first | exact Nat.le_refl _ | (simp; done) | omega | (simp; omega)) _ | refine Below.setCell ?_ (by first | exact Nat.le_refl _ | (simp; done) | omega | (simp; omega)) _))) (by omega)
  clear hw14
  clear cW13 cG13 tW13 tG13 tH13
  refine (eqLin_any _ _ _ _ _ _ _ _ _ _ _ tH14 tW14 (by omega) (by omega)).mono ?_; rw [dec_self]; rintro e w15 ⟨rfl, f15⟩
  have b15 := b14.trans (f15.mono (by omega))
  have z15 := f15.size
  have cW15 := cell_keep f15 cW14
  have cG15 := cell_keep f15 cG14
  have cH15 := cell_keep f15 cH14
  have tW15 := tW14.keep f15 (by omega)
  have tG15 := tG14.keep f15 (by omega)
  have tH15 := tH14.keep f15 (by omega)
  clear cW14 cG14 cH14 tW14 tG14 tH14
  go_wp2_with fail
  refine name_call fun w16 hw16 => ?_
  have b16 : Below w.heap.size w w16 := by rw [hw16]; (repeat (first | exact Below.refl _ _ | assumption | refine Below.drew ?_ | refine bdrewN ?_ _ | refine Below.alloc ?_ (by first | exact Nat.le_refl _ | (simp; done) | omega | (simp; omega)) _ | refine Below.setCell ?_ (by first | exact Nat.le_refl _ | (simp; done) | omega | (simp; omega)) _))
  have z16 : w15.heap.size + 0 ≤ w16.heap.size := by rw [hw16]; simp
  have cW16 : w16.cell? ⟨w3.heap.size, 0, none⟩ = some (.slice aW (varOf v).length kW) := by rw [hw16]; first | exact cW15 | exact cW15
  have cG16 : w16.cell? ⟨w5.heap.size, 0, none⟩ = some (.slice aG (varOf v).length kG) := by rw [hw16]; first | exact cG15 | exact cG15
  have cH16 : w16.cell? ⟨w13.heap.size, 0, none⟩ = some (.slice aH (varOf v).length kH) := by rw [hw16]; first | exact cH15 | exact cH15
  have tW16 := tW15.keep (show Below w15.heap.size w15 w16 by rw [hw16]; (repeat (first | exact Below.refl _ _ | assumption | refine Below.drew ?_ | refine bdrewN ?_ _ | refine Below.alloc ?_ (by first | exact Nat.le_refl _ | (simp; done) | omega | (simp; omega)) _ | refine Below.setCell ?_ (by first | exact Nat.le_refl _ | (simp; done) | omega | (simp; omega)) _))) (by omega)
  have tG16 := tG15.keep (show Below w15.heap.size w15 w16 by rw [hw16]; (repeat (first | exact Below.refl _ _ | assumption | refine Below.drew ?_ | refine bdrewN ?_ _ | refine Below.alloc ?_ (by first | exact Nat.le_refl _ | (simp; done) | omega | (simp; omega)) _ | refine Below.setCell ?_ (by first | exact Nat.le_refl _ | (simp; done) | omega | (simp; omega)) _))) (by omega)
  have tH16 := tH15.keep (show Below w15.heap.size w15 w16 by rw [hw16]; (repeat (first | exact Below.refl _ _ | assumption | refine Below.drew ?_ | refine bdrewN ?_ _ | refine Below.alloc ?_ (by first | exact Nat.le_refl _ | (simp; done) | omega | (simp; omega)) _ | refine Below.setCell ?_ (by first | exact Nat.le_refl _ | (simp; done) | omega | (simp; omega)) _))) (by omega)
  clear hw16
  clear cW15 cG15 cH15 tW15 tG15 tH15
  refine (heldLin_any _ _ _ _ _ 1 _ tG16 (by omega) (by omega) (by omega)).mono ?_; rintro e w17 ⟨rfl, f17⟩
  have b17 := b16.trans (f17.mono (by omega))
  have z17 := f17.size
  have cW17 := cell_keep f17 cW16
  have cG17 := cell_keep f17 cG16
  have cH17 := cell_keep f17 cH16
  have tW17 := tW16.keep f17 (by omega)
  have tG17 := tG16.keep f17 (by omega)
  have tH17 := tH16.keep f17 (by omega)
  clear cW16 cG16 cH16 tW16 tG16 tH16
  go_wp2_with fail
  go_ret
  exact ⟨rfl, b17⟩
end Go.Proofs.Ytpobbdibkhledaa.L
