/- B23: SpecLin Coeff LinP Val2 LinV -/
import Derived.Test.YtcenijdaacbgpaaB17
import Derived.Test.YtcenijdaacbgpaaB4
import Derived.Test.YtcenijdaacbgpaaB4
import Derived.Test.YtcenijdaacbgpaaB8
set_option linter.unusedVariables false
set_option linter.unusedSimpArgs false
/- Sums, differences, multiples of linear combinations: the model's functions. -/
namespace Go.Proofs.Ytcenijdaacbgpaa.L
open Go.RowKit Go.Shelf Go.Proofs.Ytcenijdaacbgpaa.S
end Go.Proofs.Ytcenijdaacbgpaa.L

/- The factor of a variable: the program's function and its model. -/
namespace Go.Proofs.Ytcenijdaacbgpaa.L
open Go.RowKit Go.Shelf Go.Proofs.Ytcenijdaacbgpaa.S
set_option linter.unusedVariables false
set_option linter.unusedSimpArgs false

/-- The factor of v among the terms. -/
def coeffOf (v : Int) : List T → Int
  | [] => 0
  | t :: ts => if t.1 = v then t.2 else coeffOf v ts
def coeff (ts : List T) (v : Int) : Int := if linOk ts = true then coeffOf v ts else -1

theorem coeffOf_hit {v x y : Int} {ts : List T} (h : x = v) : coeffOf v ((x, y) :: ts) = y := by simp [coeffOf, h]
theorem coeffOf_miss {v x y : Int} {ts : List T} (h : ¬ x = v) : coeffOf v ((x, y) :: ts) = coeffOf v ts := by simp [coeffOf, h]

end Go.Proofs.Ytcenijdaacbgpaa.L

/- Facts of linear combinations as lists of terms: their negation, their factors, their values. -/
namespace Go.Proofs.Ytcenijdaacbgpaa.L
open Go.RowKit Go.Shelf Go.Proofs.Ytcenijdaacbgpaa.S
set_option linter.unusedVariables false
set_option linter.unusedSimpArgs false

theorem lok_nil (ts : List T) : lok [] ts = linOk ts := by unfold lok; simp [linOk, okFrom]
/-- The negation, term by term. -/
def negT (ts : List T) : List T := ts.map fun t => (t.1, 2147483647 - t.2)
theorem okFrom_fac {p : Int} {ts : List T} (h : okFrom p ts = true) : ∀ t ∈ ts, 0 < t.2 ∧ t.2 < 2147483647 := fun t ht => by have := okFrom_mem h t ht; omega
theorem mrg_neg : ∀ (ts : List T), (∀ t ∈ ts, 0 < t.2 ∧ t.2 < 2147483647) → mrg 2147483646 [] ts = negT ts
  | [], _ => by rw [mrg_nil]; rfl
  | t :: r, h => by
    have ht := h t (by simp)
    rw [mrg_b, mrg_neg r (fun u hu => h u (by simp [hu]))]
    have e : t.2 * 2147483646 % 2147483647 = 2147483647 - t.2 := by omega
    unfold kp tm
    simp only [e]
    rw [if_neg (by omega)]
    rfl
theorem mrg_cancel : ∀ (ts : List T), (∀ t ∈ ts, 0 < t.2 ∧ t.2 < 2147483647) → mrg 1 ts (negT ts) = []
  | [], _ => by show mrg 1 [] [] = []; rw [mrg_nil]
  | t :: r, h => by
    have ht := h t (by simp)
    show mrg 1 (t :: r) ((t.1, 2147483647 - t.2) :: negT r) = []
    rw [mrg_eq 1 t (t.1, 2147483647 - t.2) r (negT r) rfl, mrg_cancel r (fun u hu => h u (by simp [hu]))]
    have e : (t.2 + (2147483647 - t.2) * 1 % 2147483647) % 2147483647 = 0 := by omega
    unfold kp pl tm
    simp only [e]
    exact if_pos trivial
theorem neg_cancel {ts : List T} (h : linOk ts = true) : lcomb 1 ts (lcomb 2147483646 [] ts) = [] ∧ lok ts (lcomb 2147483646 [] ts) = true := by
  have hf : ∀ t ∈ ts, 0 < t.2 ∧ t.2 < 2147483647 := fun t ht => by have := linOk_mem h t ht; omega
  have h0 : linOk ([] : List T) = true := rfl
  have e1 : lcomb 2147483646 [] ts = mrg 2147483646 [] ts := (lcomb_yes h0 h).1
  have h2 : linOk (mrg 2147483646 [] ts) = true := linOk_mrg h0 h
  rw [e1]
  refine ⟨?_, (lcomb_yes (k := 1) h h2).2⟩
  rw [(lcomb_yes (k := 1) h h2).1, mrg_neg ts hf]
  exact mrg_cancel ts hf

theorem coeffOf_none {p : Int} : ∀ {ts : List T} {v : Int}, okFrom p ts = true → v ≤ p → coeffOf v ts = 0
  | [], _, _, _ => rfl
  | t :: r, v, h, hv => by
    obtain ⟨⟨h0, _⟩, h4⟩ := okFrom_cons h
    simp only [coeffOf]
    rw [if_neg (by omega)]
    exact coeffOf_none h4 (by omega)
theorem coeffOf_at {p : Int} : ∀ {ts : List T} {i : Nat} {t : T}, okFrom p ts = true → ts[i]? = some t → coeffOf t.1 ts = t.2
  | [], i, t, _, h => by simp at h
  | u :: r, 0, t, _, h => by simp at h; subst h; simp [coeffOf]
  | u :: r, i + 1, t, hk, h => by
    obtain ⟨_, h4⟩ := okFrom_cons hk
    have h' : r[i]? = some t := by simpa using h
    have hm := okFrom_mem h4 t (List.mem_of_getElem? h')
    simp only [coeffOf]
    rw [if_neg (by omega)]
    exact coeffOf_at h4 h'
theorem coeffOf_mem {p : Int} : ∀ {ts : List T} {v : Int}, okFrom p ts = true → (coeffOf v ts ≠ 0 ↔ ∃ t ∈ ts, t.1 = v)
  | [], v, _ => by simp [coeffOf]
  | t :: r, v, h => by
    obtain ⟨⟨h0, h1, h2, h3⟩, h4⟩ := okFrom_cons h
    have ih := coeffOf_mem (v := v) h4
    by_cases e : t.1 = v
    · simp only [coeffOf, e, if_true]
      exact ⟨fun _ => ⟨t, by simp, e⟩, fun _ => by omega⟩
    · simp only [coeffOf, e, if_false]
      rw [ih]
      constructor
      · rintro ⟨u, hu, q⟩; exact ⟨u, by simp [hu], q⟩
      · rintro ⟨u, hu, q⟩
        rcases List.mem_cons.1 hu with rfl | hu
        · exact absurd q e
        · exact ⟨u, hu, q⟩
/-- Does one of the first k terms have the variable v? -/
def fnd (ts : List T) (v : Int) (k : Nat) : Bool := (ts.take k).any fun t => t.1 == v
theorem fnd_step {ts : List T} {v : Int} {k : Nat} {t : T} (h : ts[k]? = some t) : fnd ts v (k + 1) = (fnd ts v k || t.1 == v) := by
  unfold fnd; rw [take_step h]; simp
theorem fnd_end {ts : List T} {v : Int} (h : linOk ts = true) : (fnd ts v ts.length == (coeffOf v ts != 0)) = true := by
  unfold fnd
  rw [List.take_length]
  have := coeffOf_mem (v := v) (show okFrom (-1) ts = true from h)
  cases hq : (ts.any fun t => t.1 == v) with
  | true =>
    have : coeffOf v ts ≠ 0 := this.2 (by obtain ⟨t, ht, e⟩ := List.any_eq_true.1 hq; exact ⟨t, ht, by simpa using e⟩)
    simp [this]
  | false =>
    have h0 : ¬ ∃ t ∈ ts, t.1 = v := by
      rintro ⟨t, ht, e⟩
      have : (ts.any fun t => t.1 == v) = true := List.any_eq_true.2 ⟨t, ht, by simp [e]⟩
      rw [hq] at this; cases this
    have : ¬ coeffOf v ts ≠ 0 := fun q => h0 (this.1 q)
    simp only [ne_eq, Decidable.not_not] at this
    simp [this]
end Go.Proofs.Ytcenijdaacbgpaa.L

/- Value of the program and of its model. -/
namespace Go.Proofs.Ytcenijdaacbgpaa.L
open Go.RowKit Go.Proofs.Ytcenijdaacbgpaa.S
set_option linter.unusedVariables false
set_option linter.unusedSimpArgs false

theorem val_no {ts : List T} {xs : List Int} (h : valOk ts xs = false) : val ts xs = 0 := if_neg (by rw [h]; simp)
theorem val_yes {ts : List T} {xs : List Int} (h : valOk ts xs = true) : val ts xs = lval xs ts := if_pos h
theorem valOk_1 {ts : List T} {xs : List Int} (h : linOk ts = false) : valOk ts xs = false := by simp [valOk, h]
theorem valOk_2 {ts : List T} {xs : List Int} (h : isAsg xs = false) : valOk ts xs = false := by simp [valOk, h]
theorem valOk_3 {ts : List T} {xs : List Int} (h : within xs.length ts = false) : valOk ts xs = false := by simp [valOk, h]
theorem valOk_4 {ts : List T} {xs : List Int} (h1 : linOk ts = true) (h2 : isAsg xs = true) (h3 : within xs.length ts = true) : valOk ts xs = true := by simp [valOk, h1, h2, h3]
theorem within_no {ts : List T} {n k : Nat} {x y : Int} (e : ts[k]? = some (x, y)) (h : (n : Int) ≤ x) : within n ts = false := decide_eq_false (fun hh => by have := hh (x, y) (List.mem_of_getElem? e); simp only at this; omega)

set_option maxRecDepth 100000 in
set_option maxHeartbeats 1600000 in
theorem value_spec (o1 l1 h1 va ts) (lim : Nat) (v : Value) (xs : List Int) (w : World) (t1 : Terms o1 l1 h1 w va ts) (hw1 : h1 ≤ w.heap.size) (t2 : Ints lim w v xs) (hl : lim ≤ w.heap.size) :
    Calls Try.prog 27 #[.agg #[va], v] w fun e w' => e = .returned (.tuple #[.int .i64 (val ts xs), .bool (valOk ts xs)]) ∧ Below w.heap.size w w' := by
  obtain ⟨a, ca, rfl, la, ba⟩ := t1.shape
  obtain ⟨c, cc, rfl, lc, bc⟩ := t2.shape
  cases hk : linOk ts
  · rw [val_no (valOk_1 hk), valOk_1 hk]
    go_enter Try.func27, Try.ntmps27
    go_wp2_with fail
    refine name_call fun w1 hw1' => ?_
    have b1 : Below w.heap.size w w1 := by rw [hw1']; (repeat (with_reducible first | exact bR _ _ | assumption | refine bD ?_ | refine bN ?_ _ | refine bA ?_ _ | refine bS ?_ _))
    have z1 : w.heap.size + 1 ≤ w1.heap.size := by rw [hw1']; simp
    have cA1 : w1.cell? ⟨w.heap.size, 0, none⟩ = some (.slice a ts.length ca) := by rw [hw1']; first | (simp; done) | go_simp
    clear hw1'
    refine (linOk_spec_no o1 l1 h1 _ ts w1 (t1.keep b1 hw1) (by omega) hk).mono ?_; rintro e w2 ⟨rfl, f2⟩
    have b2 := b1.trans (f2.mono (by omega))
    have z2 := f2.size
    have cA2 := cell_keep f2 cA1
    clear cA1
    go_wp2_with fail
    go_ret2
    exact ⟨rfl, b2⟩
  cases ha : isAsg xs
  · rw [val_no (valOk_2 ha), valOk_2 ha]
    go_enter Try.func27, Try.ntmps27
    go_wp2_with fail
    refine name_call fun w1 hw1' => ?_
    have b1 : Below w.heap.size w w1 := by rw [hw1']; (repeat (with_reducible first | exact bR _ _ | assumption | refine bD ?_ | refine bN ?_ _ | refine bA ?_ _ | refine bS ?_ _))
    have z1 : w.heap.size + 1 ≤ w1.heap.size := by rw [hw1']; simp
    have cA1 : w1.cell? ⟨w.heap.size, 0, none⟩ = some (.slice a ts.length ca) := by rw [hw1']; first | (simp; done) | go_simp
    clear hw1'
    refine (linOk_spec_yes o1 l1 h1 _ ts w1 (t1.keep b1 hw1) (by omega) hk).mono ?_; rintro e w2 ⟨rfl, f2⟩
    have b2 := b1.trans (f2.mono (by omega))
    have z2 := f2.size
    have cA2 := cell_keep f2 cA1
    clear cA1
    go_wp2_with fail
    have HA := asg_spec lim _ xs w2 (t2.keep b2 hl)
    rw [ha] at HA
    refine HA.mono ?_; rintro e w' ⟨rfl, rfl⟩
    clear HA
    go_wp2_with fail
    go_ret2
    exact ⟨rfl, b2⟩
  obtain ⟨nx, -⟩ := asg_fits ha
  cases hin : within xs.length ts
  · rw [val_no (valOk_3 hin), valOk_3 hin]
    go_enter Try.func27, Try.ntmps27
    go_wp2_with fail
    refine name_call fun w1 hw1' => ?_
    have b1 : Below w.heap.size w w1 := by rw [hw1']; (repeat (with_reducible first | exact bR _ _ | assumption | refine bD ?_ | refine bN ?_ _ | refine bA ?_ _ | refine bS ?_ _))
    have z1 : w.heap.size + 1 ≤ w1.heap.size := by rw [hw1']; simp
    have cA1 : w1.cell? ⟨w.heap.size, 0, none⟩ = some (.slice a ts.length ca) := by rw [hw1']; first | (simp; done) | go_simp
    clear hw1'
    refine (linOk_spec_yes o1 l1 h1 _ ts w1 (t1.keep b1 hw1) (by omega) hk).mono ?_; rintro e w2 ⟨rfl, f2⟩
    have b2 := b1.trans (f2.mono (by omega))
    have z2 := f2.size
    have cA2 := cell_keep f2 cA1
    clear cA1
    go_wp2_with fail
    have HA := asg_spec lim _ xs w2 (t2.keep b2 hl)
    rw [ha] at HA
    refine HA.mono ?_; rintro e w' ⟨rfl, rfl⟩
    clear HA
    go_wp2_with fail
    have HI := within_any o1 l1 h1 _ ts xs.length w2 (t1.keep b2 hw1) (by omega) hk (by omega)
    rw [hin] at HI
    refine HI.mono ?_; rintro e w3 ⟨rfl, f3⟩
    have b3 := b2.trans (f3.mono (by omega))
    clear HI
    go_wp2_with fail
    go_ret2
    exact ⟨rfl, b3⟩
  · rw [val_yes (valOk_4 hk ha hin), valOk_4 hk ha hin]
    go_enter Try.func27, Try.ntmps27
    go_wp2_with fail
    refine name_call fun w1 hw1' => ?_
    have b1 : Below w.heap.size w w1 := by rw [hw1']; (repeat (with_reducible first | exact bR _ _ | assumption | refine bD ?_ | refine bN ?_ _ | refine bA ?_ _ | refine bS ?_ _))
    have z1 : w.heap.size + 1 ≤ w1.heap.size := by rw [hw1']; simp
    have cA1 : w1.cell? ⟨w.heap.size, 0, none⟩ = some (.slice a ts.length ca) := by rw [hw1']; first | (simp; done) | go_simp
    clear hw1'
    refine (linOk_spec_yes o1 l1 h1 _ ts w1 (t1.keep b1 hw1) (by omega) hk).mono ?_; rintro e w2 ⟨rfl, f2⟩
    have b2 := b1.trans (f2.mono (by omega))
    have z2 := f2.size
    have cA2 := cell_keep f2 cA1
    clear cA1
    go_wp2_with fail
    have HA := asg_spec lim _ xs w2 (t2.keep b2 hl)
    rw [ha] at HA
    refine HA.mono ?_; rintro e w' ⟨rfl, rfl⟩
    clear HA
    go_wp2_with fail
    have HI := within_any o1 l1 h1 _ ts xs.length w2 (t1.keep b2 hw1) (by omega) hk (by omega)
    rw [hin] at HI
    refine HI.mono ?_; rintro e w3 ⟨rfl, f3⟩
    have b3 := b2.trans (f3.mono (by omega))
    have z3 := f3.size
    have cA3 := cell_keep f3 cA2
    clear HI cA2
    go_wp2_with fail
    refine (l2value_any o1 l1 h1 _ ts lim _ xs w3 (t1.keep b3 hw1) (by omega) (t2.keep b3 hl) (by omega) hk ha hin).mono ?_; rintro e w4 ⟨rfl, f4⟩
    have b4 := b3.trans (f4.mono (by omega))
    go_wp2_with fail
    go_ret2
    exact ⟨rfl, b4⟩

theorem valOk_asg {ts : List T} {xs : List Int} : valOk ts xs = (isAsg xs && linW xs.length ts) := by
  rw [linW_within]; unfold valOk
  cases linOk ts <;> cases isAsg xs <;> simp

end Go.Proofs.Ytcenijdaacbgpaa.L

/- The value of a sum, of a multiple, of a constant. -/
namespace Go.Proofs.Ytcenijdaacbgpaa.L
open Go.RowKit Go.Shelf Go.Proofs.Ytcenijdaacbgpaa.S
set_option linter.unusedVariables false
set_option linter.unusedSimpArgs false

/-- The sum of the terms' values, not reduced. -/
def sv (xs : List Int) (ts : List T) : Int := (ts.map (term xs)).sum
theorem lval_sv (xs : List Int) (ts : List T) : lval xs ts = sv xs ts % 2147483647 := rfl
theorem sv_nil (xs : List Int) : sv xs [] = 0 := rfl
theorem sv_cons (xs : List Int) (t : T) (ts : List T) : sv xs (t :: ts) = term xs t + sv xs ts := by simp [sv]
def sm' (a b : Int) : Prop := (a - b) % 2147483647 = 0
theorem sv_kp (xs : List Int) (t : T) (ts : List T) : sv xs (kp t ts) = term xs t + sv xs ts := by
  unfold kp
  split
  · next h => unfold term; rw [h]; simp
  · exact sv_cons _ _ _
theorem emod_mul_dvd (y k z : Int) : (2147483647 : Int) ∣ (y * k % 2147483647) * z - k * (y * z) := by
  have h := Int.emod_add_mul_ediv (y * k) 2147483647
  have e : (y * k % 2147483647) * z - k * (y * z) = 2147483647 * (-(y * k / 2147483647) * z) := by
    have h2 : y * k % 2147483647 = y * k - 2147483647 * (y * k / 2147483647) := by omega
    rw [h2, Int.sub_mul, show y * k * z = k * (y * z) by rw [Int.mul_comm y k, Int.mul_assoc]]
    generalize y * k / 2147483647 = q
    generalize k * (y * z) = r
    have : 2147483647 * (-q * z) = -(2147483647 * q * z) := by rw [Int.neg_mul, Int.mul_neg, Int.mul_assoc]
    omega
  rw [e]
  exact Int.dvd_mul_right _ _
theorem emod_dvd (a z : Int) : (2147483647 : Int) ∣ (a % 2147483647) * z - a * z := by
  have h2 : a % 2147483647 = a - 2147483647 * (a / 2147483647) := by have := Int.emod_add_mul_ediv a 2147483647; omega
  rw [h2, Int.sub_mul]
  have : a * z - 2147483647 * (a / 2147483647) * z - a * z = 2147483647 * (-(a / 2147483647 * z)) := by rw [Int.mul_assoc]; omega
  rw [this]
  exact Int.dvd_mul_right _ _
theorem term_tm (xs : List Int) (k : Int) (b : T) : (2147483647 : Int) ∣ term xs (tm k b) - k * term xs b := emod_mul_dvd _ _ _
theorem term_pl (xs : List Int) (k : Int) (a b : T) (h : a.1 = b.1) : (2147483647 : Int) ∣ term xs (pl a (tm k b)) - (term xs a + k * term xs b) := by
  have h1 := emod_dvd (a.2 + (tm k b).2) (xs[a.1.toNat]?.getD 0)
  have h2 := term_tm xs k b
  have e1 : term xs (pl a (tm k b)) = ((a.2 + (tm k b).2) % 2147483647) * (xs[a.1.toNat]?.getD 0) := rfl
  have e2 : (a.2 + (tm k b).2) * (xs[a.1.toNat]?.getD 0) = term xs a + term xs (tm k b) := by
    rw [Int.add_mul]
    show _ = a.2 * _ + (tm k b).2 * (xs[b.1.toNat]?.getD 0)
    rw [h]
  rw [e1]
  rw [e2] at h1
  omega
theorem sv_mrg (xs : List Int) (k : Int) : ∀ (ps bs : List T), (2147483647 : Int) ∣ sv xs (mrg k ps bs) - (sv xs ps + k * sv xs bs)
  | [], [] => by rw [mrg_nil]; simp [sv_nil]
  | a :: ps, [] => by
    rw [mrg_a, sv_kp, sv_cons]
    have := sv_mrg xs k ps []
    simp only [sv_nil] at *
    omega
  | [], b :: bs => by
    rw [mrg_b, sv_kp, sv_cons, Int.mul_add]
    have h1 := sv_mrg xs k [] bs
    have h2 := term_tm xs k b
    simp only [sv_nil] at *
    omega
  | a :: ps, b :: bs => by
    by_cases h : a.1 < b.1
    · rw [mrg_lt k a b ps bs h, sv_kp, sv_cons xs a]
      have := sv_mrg xs k ps (b :: bs)
      omega
    · by_cases h2 : b.1 < a.1
      · rw [mrg_gt k a b ps bs h2, sv_kp, sv_cons xs b, Int.mul_add]
        have h3 := sv_mrg xs k (a :: ps) bs
        have h4 := term_tm xs k b
        omega
      · have he : a.1 = b.1 := by omega
        rw [mrg_eq k a b ps bs he, sv_kp, sv_cons xs a, sv_cons xs b, Int.mul_add]
        have h3 := sv_mrg xs k ps bs
        have h4 := term_pl xs k a b he
        omega
  termination_by ps bs => ps.length + bs.length
theorem within_mrg (n : Nat) (k : Int) : ∀ (ps bs : List T), (∀ t ∈ ps, t.1 < (n : Int)) → (∀ t ∈ bs, t.1 < (n : Int)) → ∀ t ∈ mrg k ps bs, t.1 < (n : Int)
  | [], [], _, _ => by rw [mrg_nil]; simp
  | a :: ps, [], ha, hb => by
    rw [mrg_a]
    exact within_kp (ha a (by simp)) (within_mrg n k ps [] (fun t ht => ha t (by simp [ht])) hb)
  | [], b :: bs, ha, hb => by
    rw [mrg_b]
    exact within_kp (hb b (by simp)) (within_mrg n k [] bs ha (fun t ht => hb t (by simp [ht])))
  | a :: ps, b :: bs, ha, hb => by
    by_cases h : a.1 < b.1
    · rw [mrg_lt k a b ps bs h]
      exact within_kp (ha a (by simp)) (within_mrg n k ps (b :: bs) (fun t ht => ha t (by simp [ht])) hb)
    · by_cases h2 : b.1 < a.1
      · rw [mrg_gt k a b ps bs h2]
        exact within_kp (hb b (by simp)) (within_mrg n k (a :: ps) bs ha (fun t ht => hb t (by simp [ht])))
      · rw [mrg_eq k a b ps bs (by omega)]
        exact within_kp (ha a (by simp)) (within_mrg n k ps bs (fun t ht => ha t (by simp [ht])) (fun t ht => hb t (by simp [ht])))
  termination_by ps bs => ps.length + bs.length
where
  within_kp {n : Nat} {t : T} {l : List T} (h : t.1 < (n : Int)) (hl : ∀ u ∈ l, u.1 < (n : Int)) : ∀ u ∈ kp t l, u.1 < (n : Int) := by
    unfold kp
    split
    · exact hl
    · intro u hu
      rcases List.mem_cons.1 hu with rfl | hu
      · exact h
      · exact hl u hu
theorem valOk_iff {ts : List T} {xs : List Int} : valOk ts xs = true ↔ linOk ts = true ∧ isAsg xs = true ∧ within xs.length ts = true := by
  unfold valOk; simp [Bool.and_eq_true]
theorem val_mrg {ps bs : List T} {xs : List Int} (k : Int) (ha : valOk ps xs = true) (hb : valOk bs xs = true) :
    valOk (lcomb k ps bs) xs = true ∧ lok ps bs = true ∧ val (lcomb k ps bs) xs = (val ps xs + k * val bs xs) % 2147483647 := by
  obtain ⟨a1, a2, a3⟩ := valOk_iff.1 ha
  obtain ⟨b1, b2, b3⟩ := valOk_iff.1 hb
  have hl := lcomb_yes (k := k) a1 b1
  have wa : ∀ t ∈ ps, t.1 < (xs.length : Int) := of_decide_eq_true a3
  have wb : ∀ t ∈ bs, t.1 < (xs.length : Int) := of_decide_eq_true b3
  have ok : valOk (lcomb k ps bs) xs = true := by
    rw [hl.1]
    exact valOk_iff.2 ⟨linOk_mrg a1 b1, a2, decide_eq_true (within_mrg xs.length k ps bs wa wb)⟩
  refine ⟨ok, hl.2, ?_⟩
  rw [val_yes ok, val_yes ha, val_yes hb, hl.1, lval_sv, lval_sv, lval_sv]
  have h := sv_mrg xs k ps bs
  have h2 := emod_dvd (sv xs bs) k
  rw [Int.mul_comm (sv xs bs % 2147483647) k, Int.mul_comm (sv xs bs) k] at h2
  omega
theorem valOk_nil {xs : List Int} {ts : List T} (h : valOk ts xs = true) : valOk [] xs = true ∧ val [] xs = 0 := by
  have ok : valOk [] xs = true := valOk_iff.2 ⟨rfl, (valOk_iff.1 h).2.1, rfl⟩
  exact ⟨ok, by rw [val_yes ok]; rfl⟩
theorem val_const {ts : List T} {xs : List Int} (k : Int) (h : valOk ts xs = true) : valOk (constOf k) xs = true ∧ val (constOf k) xs = k % 2147483647 := by
  obtain ⟨_, h2, _⟩ := valOk_iff.1 h
  have hx : 1 ≤ xs.length ∧ xs.length ≤ 3000 ∧ xs[0]? = some 1 ∧ ∀ x ∈ xs, fl x := of_decide_eq_true h2
  by_cases hk : k % 2147483647 = 0
  · rw [show constOf k = [] from if_pos hk, hk]
    exact valOk_nil h
  · rw [show constOf k = [(0, k % 2147483647)] from if_neg hk]
    have ok : valOk [(0, k % 2147483647)] xs = true := valOk_iff.2 ⟨by unfold linOk okFrom okFrom; simp; omega, h2, decide_eq_true (by intro t ht; simp at ht; subst ht; simp; omega)⟩
    refine ⟨ok, ?_⟩
    rw [val_yes ok, lval_sv, sv_cons, sv_nil]
    have : term xs (0, k % 2147483647) = k % 2147483647 := by unfold term; simp [hx.2.2.1]
    rw [this]; omega
end Go.Proofs.Ytcenijdaacbgpaa.L
