/- Value of the program and of its model. -/
import Derived.Test.YtghjcedhoeoiiaaB8
namespace Go.Proofs.Ytghjcedhoeoiiaa.L
open Go.RowKit Go.Proofs.Ytghjcedhoeoiiaa.S
set_option linter.unusedVariables false
set_option linter.unusedSimpArgs false

theorem val_no {ts : List T} {xs : List Int} (h : valOk ts xs = false) : val ts xs = 0 := if_neg (by rw [h]; simp)
theorem val_yes {ts : List T} {xs : List Int} (h : valOk ts xs = true) : val ts xs = lval xs ts := if_pos h
theorem valOk_1 {ts : List T} {xs : List Int} (h : linOk ts = false) : valOk ts xs = false := by simp [valOk, h]
theorem valOk_2 {ts : List T} {xs : List Int} (h : isAsg xs = false) : valOk ts xs = false := by simp [valOk, h]
theorem valOk_3 {ts : List T} {xs : List Int} (h : within xs.length ts = false) : valOk ts xs = false := by simp [valOk, h]
theorem valOk_4 {ts : List T} {xs : List Int} (h1 : linOk ts = true) (h2 : isAsg xs = true) (h3 : within xs.length ts = true) : valOk ts xs = true := by simp [valOk, h1, h2, h3]
theorem within_no {ts : List T} {n k : Nat} {x y : Int} (e : ts[k]? = some (x, y)) (h : (n : Int) ≤ x) : within n ts = false := decide_eq_false (fun hh => by have := hh (x, y) (List.mem_of_getElem? e); simp only at this; omega)

set_option maxRecDepth 100000 in
set_option maxHeartbeats 1600000 in
theorem value_spec (o1 l1 h1 va ts) (lim : Nat) (v : Value) (xs : List Int) (w : World) (t1 : Terms o1 l1 h1 w va ts) (hw1 : h1 ≤ w.heap.size) (t2 : Ints lim w v xs) (hl : lim ≤ w.heap.size) :
    Calls Try.prog 20 #[.agg #[va], v] w fun e w' => e = .returned (.tuple #[.int .i64 (val ts xs), .bool (valOk ts xs)]) ∧ Below w.heap.size w w' := by
  obtain ⟨a, ca, rfl, la, ba⟩ := t1.shape
  obtain ⟨c, cc, rfl, lc, bc⟩ := t2.shape
  cases hk : linOk ts
  · rw [val_no (valOk_1 hk), valOk_1 hk]
    go_enter Try.func20, Try.ntmps20
    go_wp2_with fail
    refine name_call fun w1 hw1' => ?_
    have b1 : Below w.heap.size w w1 := by rw [hw1']; (repeat (with_reducible first | exact bR _ _ | assumption | refine bD ?_ | refine bN ?_ _ | refine bA ?_ _ | refine bS ?_ _))
    have z1 : w.heap.size + 1 ≤ w1.heap.size := by rw [hw1']; simp
    have cA1 : w1.cell? ⟨w.heap.size, 0, none⟩ = some (.slice a ts.length ca) := by rw [hw1']; first | (simp; done) | go_simp
    clear hw1'
    refine (linOk_spec_no o1 l1 h1 _ ts w1 (t1.keep b1 hw1) (by omega) hk).mono ?_; rintro e w2 ⟨rfl, f2⟩
    have b2 := b1.trans (f2.mono (by omega))
    have z2 := f2.size
    have cA2 := cell_keep f2 cA1
    clear cA1
    go_wp2_with fail
    go_ret2
    exact ⟨rfl, b2⟩
  cases ha : isAsg xs
  · rw [val_no (valOk_2 ha), valOk_2 ha]
    go_enter Try.func20, Try.ntmps20
    go_wp2_with fail
    refine name_call fun w1 hw1' => ?_
    have b1 : Below w.heap.size w w1 := by rw [hw1']; (repeat (with_reducible first | exact bR _ _ | assumption | refine bD ?_ | refine bN ?_ _ | refine bA ?_ _ | refine bS ?_ _))
    have z1 : w.heap.size + 1 ≤ w1.heap.size := by rw [hw1']; simp
    have cA1 : w1.cell? ⟨w.heap.size, 0, none⟩ = some (.slice a ts.length ca) := by rw [hw1']; first | (simp; done) | go_simp
    clear hw1'
    refine (linOk_spec_yes o1 l1 h1 _ ts w1 (t1.keep b1 hw1) (by omega) hk).mono ?_; rintro e w2 ⟨rfl, f2⟩
    have b2 := b1.trans (f2.mono (by omega))
    have z2 := f2.size
    have cA2 := cell_keep f2 cA1
    clear cA1
    go_wp2_with fail
    have HA := asg_spec lim _ xs w2 (t2.keep b2 hl)
    rw [ha] at HA
    refine HA.mono ?_; rintro e w' ⟨rfl, rfl⟩
    clear HA
    go_wp2_with fail
    go_ret2
    exact ⟨rfl, b2⟩
  obtain ⟨nx, -⟩ := asg_fits ha
  cases hin : within xs.length ts
  · rw [val_no (valOk_3 hin), valOk_3 hin]
    go_enter Try.func20, Try.ntmps20
    go_wp2_with fail
    refine name_call fun w1 hw1' => ?_
    have b1 : Below w.heap.size w w1 := by rw [hw1']; (repeat (with_reducible first | exact bR _ _ | assumption | refine bD ?_ | refine bN ?_ _ | refine bA ?_ _ | refine bS ?_ _))
    have z1 : w.heap.size + 1 ≤ w1.heap.size := by rw [hw1']; simp
    have cA1 : w1.cell? ⟨w.heap.size, 0, none⟩ = some (.slice a ts.length ca) := by rw [hw1']; first | (simp; done) | go_simp
    clear hw1'
    refine (linOk_spec_yes o1 l1 h1 _ ts w1 (t1.keep b1 hw1) (by omega) hk).mono ?_; rintro e w2 ⟨rfl, f2⟩
    have b2 := b1.trans (f2.mono (by omega))
    have z2 := f2.size
    have cA2 := cell_keep f2 cA1
    clear cA1
    go_wp2_with fail
    have HA := asg_spec lim _ xs w2 (t2.keep b2 hl)
    rw [ha] at HA
    refine HA.mono ?_; rintro e w' ⟨rfl, rfl⟩
    clear HA
    go_wp2_with fail
    have HI := within_any o1 l1 h1 _ ts xs.length w2 (t1.keep b2 hw1) (by omega) hk (by omega)
    rw [hin] at HI
    refine HI.mono ?_; rintro e w3 ⟨rfl, f3⟩
    have b3 := b2.trans (f3.mono (by omega))
    clear HI
    go_wp2_with fail
    go_ret2
    exact ⟨rfl, b3⟩
  · rw [val_yes (valOk_4 hk ha hin), valOk_4 hk ha hin]
    go_enter Try.func20, Try.ntmps20
    go_wp2_with fail
    refine name_call fun w1 hw1' => ?_
    have b1 : Below w.heap.size w w1 := by rw [hw1']; (repeat (with_reducible first | exact bR _ _ | assumption | refine bD ?_ | refine bN ?_ _ | refine bA ?_ _ | refine bS ?_ _))
    have z1 : w.heap.size + 1 ≤ w1.heap.size := by rw [hw1']; simp
    have cA1 : w1.cell? ⟨w.heap.size, 0, none⟩ = some (.slice a ts.length ca) := by rw [hw1']; first | (simp; done) | go_simp
    clear hw1'
    refine (linOk_spec_yes o1 l1 h1 _ ts w1 (t1.keep b1 hw1) (by omega) hk).mono ?_; rintro e w2 ⟨rfl, f2⟩
    have b2 := b1.trans (f2.mono (by omega))
    have z2 := f2.size
    have cA2 := cell_keep f2 cA1
    clear cA1
    go_wp2_with fail
    have HA := asg_spec lim _ xs w2 (t2.keep b2 hl)
    rw [ha] at HA
    refine HA.mono ?_; rintro e w' ⟨rfl, rfl⟩
    clear HA
    go_wp2_with fail
    have HI := within_any o1 l1 h1 _ ts xs.length w2 (t1.keep b2 hw1) (by omega) hk (by omega)
    rw [hin] at HI
    refine HI.mono ?_; rintro e w3 ⟨rfl, f3⟩
    have b3 := b2.trans (f3.mono (by omega))
    have z3 := f3.size
    have cA3 := cell_keep f3 cA2
    clear HI cA2
    go_wp2_with fail
    refine (l2value_any o1 l1 h1 _ ts lim _ xs w3 (t1.keep b3 hw1) (by omega) (t2.keep b3 hl) (by omega) hk ha hin).mono ?_; rintro e w4 ⟨rfl, f4⟩
    have b4 := b3.trans (f4.mono (by omega))
    go_wp2_with fail
    go_ret2
    exact ⟨rfl, b4⟩

theorem valOk_asg {ts : List T} {xs : List Int} : valOk ts xs = (isAsg xs && linW xs.length ts) := by
  rw [linW_within]; unfold valOk
  cases linOk ts <;> cases isAsg xs <;> simp

end Go.Proofs.Ytghjcedhoeoiiaa.L
