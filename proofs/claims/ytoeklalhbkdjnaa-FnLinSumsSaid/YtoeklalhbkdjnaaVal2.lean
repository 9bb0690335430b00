/- Value of the program and of its model. -/
import Derived.Test.YtoeklalhbkdjnaaB8
namespace Go.Proofs.Ytoeklalhbkdjnaa.L
open Go.RowKit Go.Proofs.Ytoeklalhbkdjnaa.S
set_option linter.unusedVariables false
set_option linter.unusedSimpArgs false

theorem val_no {ts : List T} {xs : List Int} (h : valOk ts xs = false) : val ts xs = 0 := if_neg (by rw [h]; simp)
theorem val_yes {ts : List T} {xs : List Int} (h : valOk ts xs = true) : val ts xs = lval xs ts := if_pos h
theorem valOk_1 {ts : List T} {xs : List Int} (h : linOk ts = false) : valOk ts xs = false := by simp [valOk, h]
theorem valOk_2 {ts : List T} {xs : List Int} (h : isAsg xs = false) : valOk ts xs = false := by simp [valOk, h]
theorem valOk_3 {ts : List T} {xs : List Int} (h : within xs.length ts = false) : valOk ts xs = false := by simp [valOk, h]
theorem valOk_4 {ts : List T} {xs : List Int} (h1 : linOk ts = true) (h2 : isAsg xs = true) (h3 : within xs.length ts = true) : valOk ts xs = true := by simp [valOk, h1, h2, h3]
theorem within_no {ts : List T} {n k : Nat} {x y : Int} (e : ts[k]? = some (x, y)) (h : (n : Int) ≤ x) : within n ts = false := decide_eq_false (fun hh => by have := hh (x, y) (List.mem_of_getElem? e); simp only at this; omega)

theorem valOk_asg {ts : List T} {xs : List Int} : valOk ts xs = (isAsg xs && linW xs.length ts) := by
  rw [linW_within]; unfold valOk
  cases linOk ts <;> cases isAsg xs <;> simp

set_option maxRecDepth 100000 in
set_option maxHeartbeats 1600000 in
theorem value_impl (o1 l1 h1 va ts) (lim : Nat) (v : Value) (xs : List Int) (w : World) (t1 : Terms o1 l1 h1 w va ts) (hw1 : h1 ≤ w.heap.size) (t2 : Ints lim w v xs) (hl : lim ≤ w.heap.size) :
    Calls Try.prog 8 #[.agg #[va], v] w fun e w' => e = .returned (.tuple #[.int .i64 (val ts xs), .bool (valOk ts xs)]) ∧ Below w.heap.size w w' := by
  obtain ⟨a, ca, rfl, la, ba⟩ := t1.shape
  obtain ⟨c, cc, rfl, lc, bc⟩ := t2.shape
  cases h1 : isAsg xs
  · have hv : valOk ts xs = false := by rw [valOk_asg, h1]; rfl
    rw [val_no hv, hv]
    have H1 := Lib.hid h1
    clear h1 hv
    go_enter Try.func8, Try.ntmps8
    go_wp2_with fail
    refine name_call fun w1 hw1 => ?_
    have b1 : Below w.heap.size w w1 := by rw [hw1]; (repeat (with_reducible first | exact bR _ _ | assumption | refine bD ?_ | refine bN ?_ _ | refine bA ?_ _ | refine bS ?_ _))
    have z1 : w.heap.size + 1 ≤ w1.heap.size := by rw [hw1]; simp
    have e1 : Below w.heap.size w w1 := by rw [hw1]; (repeat (with_reducible first | exact bR _ _ | assumption | refine bD ?_ | refine bN ?_ _ | refine bA ?_ _ | refine bS ?_ _))
    have cA1 : w1.cell? ⟨w.heap.size, 0, none⟩ = some (.slice a ts.length ca) := by rw [hw1]; first | (simp; done) | go_simp
    have tA1 := t1.keep e1 (by omega)
    have tX1 := t2.keep e1 (by omega)
    clear hw1
    refine (asg_impl lim _ xs _ tX1).mono ?_; rw [H1.out]; rintro e w' ⟨rfl, rfl⟩
    go_wp2_with fail
    go_ret2
    exact ⟨rfl, b1⟩
  obtain ⟨nx, -⟩ := asg_fits h1
  cases h2 : linW xs.length ts
  · have hv : valOk ts xs = false := by rw [valOk_asg, h1, h2]; rfl
    rw [val_no hv, hv]
    have H1 := Lib.hid h1
    have H2 := Lib.hid h2
    clear h1 h2 hv
    go_enter Try.func8, Try.ntmps8
    go_wp2_with fail
    refine name_call fun w1 hw1 => ?_
    have b1 : Below w.heap.size w w1 := by rw [hw1]; (repeat (with_reducible first | exact bR _ _ | assumption | refine bD ?_ | refine bN ?_ _ | refine bA ?_ _ | refine bS ?_ _))
    have z1 : w.heap.size + 1 ≤ w1.heap.size := by rw [hw1]; simp
    have e1 : Below w.heap.size w w1 := by rw [hw1]; (repeat (with_reducible first | exact bR _ _ | assumption | refine bD ?_ | refine bN ?_ _ | refine bA ?_ _ | refine bS ?_ _))
    have cA1 : w1.cell? ⟨w.heap.size, 0, none⟩ = some (.slice a ts.length ca) := by rw [hw1]; first | (simp; done) | go_simp
    have tA1 := t1.keep e1 (by omega)
    have tX1 := t2.keep e1 (by omega)
    clear hw1
    refine (asg_impl lim _ xs _ tX1).mono ?_; rw [H1.out]; rintro e w' ⟨rfl, rfl⟩
    have lcA1 : w.heap.size < w1.heap.size := World.block_lt_of_cell? _ _ cA1
    go_wp2_with fail
    refine name_call fun w2 hw2 => ?_
    have b2 : Below w.heap.size w w2 := by rw [hw2]; (repeat (with_reducible first | exact bR _ _ | assumption | refine bD ?_ | refine bN ?_ _ | refine bA ?_ _ | refine bS ?_ _))
    have z2 : w1.heap.size + 0 ≤ w2.heap.size := by rw [hw2]; simp
    have e2 : Below w1.heap.size w1 w2 := by rw [hw2]; (repeat (with_reducible first | exact bR _ _ | assumption | refine bD ?_ | refine bN ?_ _ | refine bA ?_ _ | refine bS ?_ _))
    have cA2 := cell_keep e2 cA1
    have tA2 := tA1.keep e2 (by omega)
    have tX2 := tX1.keep e2 (by omega)
    clear hw2 lcA1 cA1 tA1 tX1
    refine (withinI_any o1 l1 h1 _ ts xs.length _ tA2 (by omega)).mono ?_; rw [H2.out]; rintro e w3 ⟨rfl, f3⟩
    have b3 := b2.trans (f3.mono (by omega))
    have z3 := f3.size
    have cA3 := cell_keep f3 cA2
    have tA3 := tA2.keep f3 (by omega)
    have tX3 := tX2.keep f3 (by omega)
    clear cA2 tA2 tX2
    go_wp2_with fail
    go_ret2
    exact ⟨rfl, b3⟩
  · have hv : valOk ts xs = true := by rw [valOk_asg, h1, h2]; rfl
    rw [val_yes hv, hv]
    have H1 := Lib.hid h1
    have H2 := Lib.hid h2
    clear h1 h2 hv
    go_enter Try.func8, Try.ntmps8
    go_wp2_with fail
    refine name_call fun w1 hw1 => ?_
    have b1 : Below w.heap.size w w1 := by rw [hw1]; (repeat (with_reducible first | exact bR _ _ | assumption | refine bD ?_ | refine bN ?_ _ | refine bA ?_ _ | refine bS ?_ _))
    have z1 : w.heap.size + 1 ≤ w1.heap.size := by rw [hw1]; simp
    have e1 : Below w.heap.size w w1 := by rw [hw1]; (repeat (with_reducible first | exact bR _ _ | assumption | refine bD ?_ | refine bN ?_ _ | refine bA ?_ _ | refine bS ?_ _))
    have cA1 : w1.cell? ⟨w.heap.size, 0, none⟩ = some (.slice a ts.length ca) := by rw [hw1]; first | (simp; done) | go_simp
    have tA1 := t1.keep e1 (by omega)
    have tX1 := t2.keep e1 (by omega)
    clear hw1
    refine (asg_impl lim _ xs _ tX1).mono ?_; rw [H1.out]; rintro e w' ⟨rfl, rfl⟩
    have lcA1 : w.heap.size < w1.heap.size := World.block_lt_of_cell? _ _ cA1
    go_wp2_with fail
    refine name_call fun w2 hw2 => ?_
    have b2 : Below w.heap.size w w2 := by rw [hw2]; (repeat (with_reducible first | exact bR _ _ | assumption | refine bD ?_ | refine bN ?_ _ | refine bA ?_ _ | refine bS ?_ _))
    have z2 : w1.heap.size + 0 ≤ w2.heap.size := by rw [hw2]; simp
    have e2 : Below w1.heap.size w1 w2 := by rw [hw2]; (repeat (with_reducible first | exact bR _ _ | assumption | refine bD ?_ | refine bN ?_ _ | refine bA ?_ _ | refine bS ?_ _))
    have cA2 := cell_keep e2 cA1
    have tA2 := tA1.keep e2 (by omega)
    have tX2 := tX1.keep e2 (by omega)
    clear hw2 lcA1 cA1 tA1 tX1
    refine (withinI_any o1 l1 h1 _ ts xs.length _ tA2 (by omega)).mono ?_; rw [H2.out]; rintro e w3 ⟨rfl, f3⟩
    have b3 := b2.trans (f3.mono (by omega))
    have z3 := f3.size
    have cA3 := cell_keep f3 cA2
    have tA3 := tA2.keep f3 (by omega)
    have tX3 := tX2.keep f3 (by omega)
    clear cA2 tA2 tX2
    have lcA3 : w.heap.size < w3.heap.size := World.block_lt_of_cell? _ _ cA3
    go_wp2_with fail
    refine name_call fun w4 hw4 => ?_
    have b4 : Below w.heap.size w w4 := by rw [hw4]; (repeat (with_reducible first | exact bR _ _ | assumption | refine bD ?_ | refine bN ?_ _ | refine bA ?_ _ | refine bS ?_ _))
    have z4 : w3.heap.size + 0 ≤ w4.heap.size := by rw [hw4]; simp
    have e4 : Below w3.heap.size w3 w4 := by rw [hw4]; (repeat (with_reducible first | exact bR _ _ | assumption | refine bD ?_ | refine bN ?_ _ | refine bA ?_ _ | refine bS ?_ _))
    have cA4 := cell_keep e4 cA3
    have tA4 := tA3.keep e4 (by omega)
    have tX4 := tX3.keep e4 (by omega)
    clear hw4 lcA3 cA3 tA3 tX3
    refine (valueFor_any o1 l1 h1 _ ts lim _ xs _ tA4 (by omega) tX4 (by omega) H1.out H2.out).mono ?_; rintro e w5 ⟨rfl, f5⟩
    have b5 := b4.trans (f5.mono (by omega))
    have z5 := f5.size
    have cA5 := cell_keep f5 cA4
    have tA5 := tA4.keep f5 (by omega)
    have tX5 := tX4.keep f5 (by omega)
    clear cA4 tA4 tX4
    go_wp2_with fail
    go_ret2
    exact ⟨rfl, b5⟩
end Go.Proofs.Ytoeklalhbkdjnaa.L
