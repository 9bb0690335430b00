/- Value of the program and of its model. -/
import Derived.Test.YtpobbdibkhledaaValue
namespace Go.Proofs.Ytpobbdibkhledaa.L
open Go.RowKit Go.Shelf Go.Proofs.Ytpobbdibkhledaa.S
set_option linter.unusedVariables false
set_option linter.unusedSimpArgs false

theorem val_no {ts : List T} {xs : List Int} (h : valOk ts xs = false) : val ts xs = 0 := if_neg (by rw [h]; simp)
theorem val_yes {ts : List T} {xs : List Int} (h : valOk ts xs = true) : val ts xs = lval xs ts := if_pos h
theorem valOk_1 {ts : List T} {xs : List Int} (h : linOk ts = false) : valOk ts xs = false := by simp [valOk, h]
theorem valOk_2 {ts : List T} {xs : List Int} (h : isAsg xs = false) : valOk ts xs = false := by simp [valOk, h]
theorem valOk_3 {ts : List T} {xs : List Int} (h : within xs.length ts = false) : valOk ts xs = false := by simp [valOk, h]
theorem valOk_4 {ts : List T} {xs : List Int} (h1 : linOk ts = true) (h2 : isAsg xs = true) (h3 : within xs.length ts = true) : valOk ts xs = true := by simp [valOk, h1, h2, h3]
theorem within_no {ts : List T} {n k : Nat} {x y : Int} (e : ts[k]? = some (x, y)) (h : (n : Int) ≤ x) : within n ts = false := decide_eq_false (fun hh => by have := hh (x, y) (List.mem_of_getElem? e); simp only at this; omega)

set_option maxRecDepth 100000 in
set_option maxHeartbeats 1600000 in
theorem value_spec (o1 l1 h1 va ts) (lim : Nat) (v : Value) (xs : List Int) (w : World) (t1 : Terms o1 l1 h1 w va ts) (hw1 : h1 ≤ w.heap.size) (t2 : Ints lim w v xs) (hl : lim ≤ w.heap.size) :
    Calls Try.prog 49 #[.agg #[va], v] w fun e w' => e = .returned (.tuple #[.int .i64 (val ts xs), .bool (valOk ts xs)]) ∧ Below w.heap.size w w' := by
  obtain ⟨a, ca, rfl, la, ba⟩ := t1.shape
  obtain ⟨c, cc, rfl, lc, bc⟩ := t2.shape
  cases hk : linOk ts
  · rw [val_no (valOk_1 hk), valOk_1 hk]
    go_enter Try.func49, Try.ntmps49
    go_wp2_with fail
    refine name_call fun w1 hw1' => ?_
    have b1 : Below w.heap.size w w1 := by rw [hw1']; (repeat (first | exact Below.refl _ _ | assumption | refine Below.drew ?_ | refine bdrewN ?_ _ | refine Below.alloc ?_ (by first | exact Nat.le_refl _ | (simp; done) | omega | (simp; omega)) _ | refine Below.setCell ?_ (by first | exact Nat.le_refl _ | (simp; done) | omega | (simp; omega)) _))
    have z1 : w.heap.size + 1 ≤ w1.heap.size := by rw [hw1']; simp
    have cA1 : w1.cell? ⟨w.heap.size, 0, none⟩ = some (.slice a ts.length ca) := by rw [hw1']; exact (Boxed.new w _ _).cell
    clear hw1'
    refine (linOk_spec_no o1 l1 h1 _ ts w1 (t1.keep b1 hw1) (by omega) hk).mono ?_; rintro e w2 ⟨rfl, f2⟩
    have b2 := b1.trans (f2.mono (by omega))
    have z2 := f2.size
    have cA2 := cell_keep f2 cA1
    clear cA1
    go_wp2_with fail
    go_ret2
    exact ⟨rfl, b2⟩
  cases ha : isAsg xs
  · rw [val_no (valOk_2 ha), valOk_2 ha]
    go_enter Try.func49, Try.ntmps49
    go_wp2_with fail
    refine name_call fun w1 hw1' => ?_
    have b1 : Below w.heap.size w w1 := by rw [hw1']; (repeat (first | exact Below.refl _ _ | assumption | refine Below.drew ?_ | refine bdrewN ?_ _ | refine Below.alloc ?_ (by first | exact Nat.le_refl _ | (simp; done) | omega | (simp; omega)) _ | refine Below.setCell ?_ (by first | exact Nat.le_refl _ | (simp; done) | omega | (simp; omega)) _))
    have z1 : w.heap.size + 1 ≤ w1.heap.size := by rw [hw1']; simp
    have cA1 : w1.cell? ⟨w.heap.size, 0, none⟩ = some (.slice a ts.length ca) := by rw [hw1']; exact (Boxed.new w _ _).cell
    clear hw1'
    refine (linOk_spec_yes o1 l1 h1 _ ts w1 (t1.keep b1 hw1) (by omega) hk).mono ?_; rintro e w2 ⟨rfl, f2⟩
    have b2 := b1.trans (f2.mono (by omega))
    have z2 := f2.size
    have cA2 := cell_keep f2 cA1
    clear cA1
    go_wp2_with fail
    have HA := asg_spec lim _ xs w2 (t2.keep b2 hl)
    rw [ha] at HA
    refine HA.mono ?_; rintro e w' ⟨rfl, rfl⟩
    clear HA
    go_wp2_with fail
    go_ret2
    exact ⟨rfl, b2⟩
  obtain ⟨nx, -⟩ := asg_fits ha
  cases hin : within xs.length ts
  · rw [val_no (valOk_3 hin), valOk_3 hin]
    go_enter Try.func49, Try.ntmps49
    go_wp2_with fail
    refine name_call fun w1 hw1' => ?_
    have b1 : Below w.heap.size w w1 := by rw [hw1']; (repeat (first | exact Below.refl _ _ | assumption | refine Below.drew ?_ | refine bdrewN ?_ _ | refine Below.alloc ?_ (by first | exact Nat.le_refl _ | (simp; done) | omega | (simp; omega)) _ | refine Below.setCell ?_ (by first | exact Nat.le_refl _ | (simp; done) | omega | (simp; omega)) _))
    have z1 : w.heap.size + 1 ≤ w1.heap.size := by rw [hw1']; simp
    have cA1 : w1.cell? ⟨w.heap.size, 0, none⟩ = some (.slice a ts.length ca) := by rw [hw1']; exact (Boxed.new w _ _).cell
    clear hw1'
    refine (linOk_spec_yes o1 l1 h1 _ ts w1 (t1.keep b1 hw1) (by omega) hk).mono ?_; rintro e w2 ⟨rfl, f2⟩
    have b2 := b1.trans (f2.mono (by omega))
    have z2 := f2.size
    have cA2 := cell_keep f2 cA1
    clear cA1
    go_wp2_with fail
    have HA := asg_spec lim _ xs w2 (t2.keep b2 hl)
    rw [ha] at HA
    refine HA.mono ?_; rintro e w' ⟨rfl, rfl⟩
    clear HA
    go_wp2_with fail
    have HI := within_any o1 l1 h1 _ ts xs.length w2 (t1.keep b2 hw1) (by omega) hk (by omega)
    rw [hin] at HI
    refine HI.mono ?_; rintro e w3 ⟨rfl, f3⟩
    have b3 := b2.trans (f3.mono (by omega))
    clear HI
    go_wp2_with fail
    go_ret2
    exact ⟨rfl, b3⟩
  · rw [val_yes (valOk_4 hk ha hin), valOk_4 hk ha hin]
    go_enter Try.func49, Try.ntmps49
    go_wp2_with fail
    refine name_call fun w1 hw1' => ?_
    have b1 : Below w.heap.size w w1 := by rw [hw1']; (repeat (first | exact Below.refl _ _ | assumption | refine Below.drew ?_ | refine bdrewN ?_ _ | refine Below.alloc ?_ (by first | exact Nat.le_refl _ | (simp; done) | omega | (simp; omega)) _ | refine Below.setCell ?_ (by first | exact Nat.le_refl _ | (simp; done) | omega | (simp; omega)) _))
    have z1 : w.heap.size + 1 ≤ w1.heap.size := by rw [hw1']; simp
    have cA1 : w1.cell? ⟨w.heap.size, 0, none⟩ = some (.slice a ts.length ca) := by rw [hw1']; exact (Boxed.new w _ _).cell
    clear hw1'
    refine (linOk_spec_yes o1 l1 h1 _ ts w1 (t1.keep b1 hw1) (by omega) hk).mono ?_; rintro e w2 ⟨rfl, f2⟩
    have b2 := b1.trans (f2.mono (by omega))
    have z2 := f2.size
    have cA2 := cell_keep f2 cA1
    clear cA1
    go_wp2_with fail
    have HA := asg_spec lim _ xs w2 (t2.keep b2 hl)
    rw [ha] at HA
    refine HA.mono ?_; rintro e w' ⟨rfl, rfl⟩
    clear HA
    go_wp2_with fail
    have HI := within_any o1 l1 h1 _ ts xs.length w2 (t1.keep b2 hw1) (by omega) hk (by omega)
    rw [hin] at HI
    refine HI.mono ?_; rintro e w3 ⟨rfl, f3⟩
    have b3 := b2.trans (f3.mono (by omega))
    have z3 := f3.size
    have cA3 := cell_keep f3 cA2
    clear HI cA2
    go_wp2_with fail
    refine (l2value_any o1 l1 h1 _ ts lim _ xs w3 (t1.keep b3 hw1) (by omega) (t2.keep b3 hl) (by omega) hk ha hin).mono ?_; rintro e w4 ⟨rfl, f4⟩
    have b4 := b3.trans (f4.mono (by omega))
    go_wp2_with fail
    go_ret2
    exact ⟨rfl, b4⟩

set_option maxRecDepth 100000 in
set_option maxHeartbeats 1600000 in
theorem value_impl (o1 l1 h1 va ts) (lim : Nat) (v : Value) (xs : List Int) (w : World) (t1 : Terms o1 l1 h1 w va ts) (hw1 : h1 ≤ w.heap.size) (t2 : Ints lim w v xs) (hl : lim ≤ w.heap.size) :
    Calls Try.prog 19 #[.agg #[va], v] w fun e w' => e = .returned (.tuple #[.int .i64 (val ts xs), .bool (valOk ts xs)]) ∧ Below w.heap.size w w' := by
  obtain ⟨a, ca, rfl, la, ba⟩ := t1.shape
  obtain ⟨c, cc, rfl, lc, bc⟩ := t2.shape
  cases hk : linOk ts
  · rw [val_no (valOk_1 hk), valOk_1 hk]
    go_enter Try.func19, Try.ntmps19
    go_wp2_with fail
    refine name_call fun w1 hw1' => ?_
    have b1 : Below w.heap.size w w1 := by rw [hw1']; (repeat (first | exact Below.refl _ _ | assumption | refine Below.drew ?_ | refine bdrewN ?_ _ | refine Below.alloc ?_ (by first | exact Nat.le_refl _ | (simp; done) | omega | (simp; omega)) _ | refine Below.setCell ?_ (by first | exact Nat.le_refl _ | (simp; done) | omega | (simp; omega)) _))
    have z1 : w.heap.size + 1 ≤ w1.heap.size := by rw [hw1']; simp
    have cA1 : w1.cell? ⟨w.heap.size, 0, none⟩ = some (.slice a ts.length ca) := by rw [hw1']; exact (Boxed.new w _ _).cell
    clear hw1'
    refine (linOk_impl_no o1 l1 h1 _ ts w1 (t1.keep b1 hw1) (by omega) hk).mono ?_; rintro e w2 ⟨rfl, f2⟩
    have b2 := b1.trans (f2.mono (by omega))
    have z2 := f2.size
    have cA2 := cell_keep f2 cA1
    clear cA1
    go_wp2_with fail
    go_ret2
    exact ⟨rfl, b2⟩
  cases ha : isAsg xs
  · rw [val_no (valOk_2 ha), valOk_2 ha]
    go_enter Try.func19, Try.ntmps19
    go_wp2_with fail
    refine name_call fun w1 hw1' => ?_
    have b1 : Below w.heap.size w w1 := by rw [hw1']; (repeat (first | exact Below.refl _ _ | assumption | refine Below.drew ?_ | refine bdrewN ?_ _ | refine Below.alloc ?_ (by first | exact Nat.le_refl _ | (simp; done) | omega | (simp; omega)) _ | refine Below.setCell ?_ (by first | exact Nat.le_refl _ | (simp; done) | omega | (simp; omega)) _))
    have z1 : w.heap.size + 1 ≤ w1.heap.size := by rw [hw1']; simp
    have cA1 : w1.cell? ⟨w.heap.size, 0, none⟩ = some (.slice a ts.length ca) := by rw [hw1']; exact (Boxed.new w _ _).cell
    clear hw1'
    refine (linOk_impl_yes o1 l1 h1 _ ts w1 (t1.keep b1 hw1) (by omega) hk).mono ?_; rintro e w2 ⟨rfl, f2⟩
    have b2 := b1.trans (f2.mono (by omega))
    have z2 := f2.size
    have cA2 := cell_keep f2 cA1
    clear cA1
    go_wp2_with fail
    have HA := asg_impl lim _ xs w2 (t2.keep b2 hl)
    rw [ha] at HA
    refine HA.mono ?_; rintro e w' ⟨rfl, rfl⟩
    clear HA
    go_wp2_with fail
    go_ret2
    exact ⟨rfl, b2⟩
  · obtain ⟨nx, fx⟩ := asg_fits ha
    have FX := Lib.hid fx
    have nl := linOk_length hk
    clear fx
    go_enter Try.func19, Try.ntmps19
    go_wp2_with fail
    refine name_call fun w1 hw1' => ?_
    have b1 : Below w.heap.size w w1 := by rw [hw1']; (repeat (first | exact Below.refl _ _ | assumption | refine Below.drew ?_ | refine bdrewN ?_ _ | refine Below.alloc ?_ (by first | exact Nat.le_refl _ | (simp; done) | omega | (simp; omega)) _ | refine Below.setCell ?_ (by first | exact Nat.le_refl _ | (simp; done) | omega | (simp; omega)) _))
    have z1 : w.heap.size + 1 ≤ w1.heap.size := by rw [hw1']; simp
    have cA1 : w1.cell? ⟨w.heap.size, 0, none⟩ = some (.slice a ts.length ca) := by rw [hw1']; exact (Boxed.new w _ _).cell
    clear hw1'
    refine (linOk_impl_yes o1 l1 h1 _ ts w1 (t1.keep b1 hw1) (by omega) hk).mono ?_; rintro e w2 ⟨rfl, f2⟩
    have b2 := b1.trans (f2.mono (by omega))
    have z2 := f2.size
    have cA2 := cell_keep f2 cA1
    clear cA1
    go_wp2_with fail
    have HA := asg_impl lim _ xs w2 (t2.keep b2 hl)
    rw [ha] at HA
    refine HA.mono ?_; rintro e w' ⟨rfl, rfl⟩
    clear HA
    go_wp2_with fail
    go_loopw [6, 20] (fun s i wr => ∃ (k : Nat), k ≤ ts.length ∧ i = .int .i64 k ∧ s = .int .i64 (lval xs (ts.take k)) ∧ (∀ t ∈ ts.take k, t.1 < (xs.length : Int)) ∧ Below w.heap.size w wr) (fun _ i _ => ts.length - (intOf i).toNat)
    case atStart => exact ⟨0, Nat.zero_le _, rfl, rfl, by simp, b2⟩
    case round =>
      obtain ⟨k, hkl, rfl, rfl, hin, be⟩ := hrel
      have hz := be.size
      by_cases hlt : k < ts.length
      · obtain ⟨b, off, x, y, rfl, l1', m1, c1, d1, e1, _⟩ := (t1.keep be hw1).at hlt
        obtain ⟨m, rfl, y0, y1⟩ := linOk_mem_at hk e1
        by_cases hm : m < xs.length
        · obtain ⟨b2', f2', z, rfl, l2', c2, e2, fz⟩ := (t2.keep be hl).at hm
          obtain ⟨z0, z1'⟩ := FX.out z (List.mem_of_getElem? e2)
          have HS := Lib.hid (lval_step (xs := xs) e1 (show xs[(m : Int).toNat]? = some z from e2))
          have HIN : Hid (∀ t ∈ ts.take (k + 1), t.1 < (xs.length : Int)) := Lib.hid (fun t ht => by
            rw [take_step e1] at ht
            rcases List.mem_append.1 ht with ht | ht
            · exact hin t ht
            · simp at ht; rw [ht]; simp only; omega)
          obtain ⟨s0, s1⟩ := lval_bd xs (ts.take k)
          generalize lval xs (ts.take k) = s at *
          have em := em_bd (y * z)
          have em2 := em_bd (s + y * z % 2147483647)
          have hmi : (m : Int) < (xs.length : Int) := by omega
          have s2 : b2' < wr.heap.size := World.block_lt_of_cell? wr _ c2
          clear e1 e2 hin
          go_wp2_with fail
          go_quiet (first | (go_at_call 70; exact quiet_eq (times_any y z _ y0 y1 z0 z1')) | (go_at_call 69; exact quiet_eq (plus_any s (y * z % 2147483647) _ s0 s1 em.1 em.2)))
          go_wp2_with fail
          go_roundw
          case rel => exact ⟨k + 1, by omega, by go_num, by rw [HS.out], HIN.out, by (repeat (first | exact Below.refl _ _ | assumption | refine Below.drew ?_ | refine bdrewN ?_ _ | refine Below.alloc ?_ (by first | exact Nat.le_refl _ | (simp; done) | omega | (simp; omega)) _ | refine Below.setCell ?_ (by first | exact Nat.le_refl _ | (simp; done) | omega | (simp; omega)) _))⟩
          case measure => simp [intOf]; omega
        · have hno := valOk_3 (within_no (n := xs.length) e1 (by omega))
          have HV := Lib.hid (val_no hno)
          have HO := Lib.hid hno
          have hmi : ¬ (m : Int) < (xs.length : Int) := by omega
          clear e1 hin hno
          go_wp2_with fail
          go_ret2
          exact ⟨by rw [HV.out, HO.out]; rfl, by (repeat (first | exact Below.refl _ _ | assumption | refine Below.drew ?_ | refine bdrewN ?_ _ | refine Below.alloc ?_ (by first | exact Nat.le_refl _ | (simp; done) | omega | (simp; omega)) _ | refine Below.setCell ?_ (by first | exact Nat.le_refl _ | (simp; done) | omega | (simp; omega)) _))⟩
      · rw [take_end hlt] at hin ⊢
        have hyes := valOk_4 hk ha (show within xs.length ts = true from decide_eq_true hin)
        have HV := Lib.hid (val_yes hyes)
        have HO := Lib.hid hyes
        clear hin hyes
        go_wp2_with fail
        go_ret2
        exact ⟨by rw [HV.out, HO.out]; rfl, be⟩
end Go.Proofs.Ytpobbdibkhledaa.L
