/- The factor of a variable: the program's function and its model. -/
import Derived.Test.YtoeklalhbkdjnaaSpecLin
namespace Go.Proofs.Ytoeklalhbkdjnaa.L
open Go.RowKit Go.Shelf Go.Proofs.Ytoeklalhbkdjnaa.S
set_option linter.unusedVariables false
set_option linter.unusedSimpArgs false

/-- The factor of v among the terms. -/
def coeffOf (v : Int) : List T → Int
  | [] => 0
  | t :: ts => if t.1 = v then t.2 else coeffOf v ts
def coeff (ts : List T) (v : Int) : Int := if linOk ts = true then coeffOf v ts else -1

theorem coeffOf_hit {v x y : Int} {ts : List T} (h : x = v) : coeffOf v ((x, y) :: ts) = y := by simp [coeffOf, h]
theorem coeffOf_miss {v x y : Int} {ts : List T} (h : ¬ x = v) : coeffOf v ((x, y) :: ts) = coeffOf v ts := by simp [coeffOf, h]

set_option maxRecDepth 100000 in
set_option maxHeartbeats 1600000 in
theorem coeff_impl (o1 l1 h1 va ts) (v : Int) (w : World) (t1 : Terms o1 l1 h1 w va ts) (hw1 : h1 ≤ w.heap.size) :
    Calls Try.prog 20 #[.agg #[va], .int .i64 v] w fun e w' => e = .returned (.int .i64 (coeff ts v)) ∧ Below w.heap.size w w' := by
  obtain ⟨a, ca, rfl, la, ba⟩ := t1.shape
  by_cases hk : linOk ts = true
  · have HR := Lib.hid (show coeff ts v = coeffOf v ts from if_pos hk)
    go_enter Try.func20, Try.ntmps20
    go_wp2_with fail
    refine name_call fun w1 hw1' => ?_
    have b1 : Below w.heap.size w w1 := by rw [hw1']; (repeat (with_reducible first | exact bR _ _ | assumption | refine bD ?_ | refine bN ?_ _ | refine bA ?_ _ | refine bS ?_ _))
    have z1 : w.heap.size + 1 ≤ w1.heap.size := by rw [hw1']; simp
    have cA1 : w1.cell? ⟨w.heap.size, 0, none⟩ = some (.slice a ts.length ca) := by rw [hw1']; go_simp
    clear hw1'
    refine (linOk_impl_yes o1 l1 h1 _ ts w1 (t1.keep b1 hw1) (by omega) hk).mono ?_; rintro e w2 ⟨rfl, f2⟩
    have b2 := b1.trans (f2.mono (by omega))
    have z2 := f2.size
    have cA2 := cell_keep f2 cA1
    clear cA1
    go_wp2_with fail
    go_loopw [13] (fun i wr => ∃ k : Nat, k ≤ ts.length ∧ i = .int .i64 k ∧ coeffOf v ts = coeffOf v (ts.drop k) ∧ Below w.heap.size w wr) (fun i _ => ts.length - (intOf i).toNat)
    case atStart => exact ⟨0, Nat.zero_le _, rfl, rfl, b2⟩
    case round =>
      obtain ⟨k, hkl, rfl, hq, be⟩ := hrel
      have hz := be.size
      by_cases hlt : k < ts.length
      · obtain ⟨b, off, x, y, rfl, l1', m1, c1, d1, e1, fx, fy⟩ := (t1.keep be hw1).at hlt
        rw [drop_step e1] at hq
        by_cases hxv : x = v
        · rw [coeffOf_hit hxv] at hq
          have HQ := Lib.hid hq
          have hb : (x == v) = true := by simp [hxv]
          clear hq e1 hxv
          go_wp2_with fail
          go_ret
          exact ⟨by rw [HR.out, HQ.out]; rfl, by (repeat (with_reducible first | exact bR _ _ | assumption | refine bD ?_ | refine bN ?_ _ | refine bA ?_ _ | refine bS ?_ _))⟩
        · rw [coeffOf_miss hxv] at hq
          have HQ := Lib.hid hq
          have hb : (x == v) = false := by simp [hxv]
          clear hq e1 hxv
          go_wp2_with fail
          go_roundw
          case rel => exact ⟨k + 1, by omega, by go_num, HQ.out, by (repeat (with_reducible first | exact bR _ _ | assumption | refine bD ?_ | refine bN ?_ _ | refine bA ?_ _ | refine bS ?_ _))⟩
          case measure => simp [intOf]; omega
      · rw [List.drop_eq_nil_of_le (by omega)] at hq
        have HQ := Lib.hid hq
        clear hq
        go_wp2_with fail
        go_ret
        exact ⟨by rw [HR.out, HQ.out]; rfl, be⟩
  · have HR := Lib.hid (show coeff ts v = -1 from if_neg hk)
    have hk' : linOk ts = false := by simpa using hk
    clear hk
    go_enter Try.func20, Try.ntmps20
    go_wp2_with fail
    refine name_call fun w1 hw1' => ?_
    have b1 : Below w.heap.size w w1 := by rw [hw1']; (repeat (with_reducible first | exact bR _ _ | assumption | refine bD ?_ | refine bN ?_ _ | refine bA ?_ _ | refine bS ?_ _))
    have z1 : w.heap.size + 1 ≤ w1.heap.size := by rw [hw1']; simp
    clear hw1'
    refine (linOk_impl_no o1 l1 h1 _ ts w1 (t1.keep b1 hw1) (by omega) hk').mono ?_; rintro e w2 ⟨rfl, f2⟩
    have b2 := b1.trans (f2.mono (by omega))
    go_wp2_with fail
    go_ret
    exact ⟨by rw [HR.out]; rfl, b2⟩

end Go.Proofs.Ytoeklalhbkdjnaa.L
