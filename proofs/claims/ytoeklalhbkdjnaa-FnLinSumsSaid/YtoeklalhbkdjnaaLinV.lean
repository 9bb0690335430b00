/- The value of a sum, of a multiple, of a constant. -/
import Derived.Test.YtoeklalhbkdjnaaLinP
import Derived.Test.YtoeklalhbkdjnaaVal2
import Derived.Test.YtoeklalhbkdjnaaB4
namespace Go.Proofs.Ytoeklalhbkdjnaa.L
open Go.RowKit Go.Shelf Go.Proofs.Ytoeklalhbkdjnaa.S
set_option linter.unusedVariables false
set_option linter.unusedSimpArgs false

/-- The sum of the terms' values, not reduced. -/
def sv (xs : List Int) (ts : List T) : Int := (ts.map (term xs)).sum
theorem lval_sv (xs : List Int) (ts : List T) : lval xs ts = sv xs ts % 2147483647 := rfl
theorem sv_nil (xs : List Int) : sv xs [] = 0 := rfl
theorem sv_cons (xs : List Int) (t : T) (ts : List T) : sv xs (t :: ts) = term xs t + sv xs ts := by simp [sv]
def sm' (a b : Int) : Prop := (a - b) % 2147483647 = 0
theorem sv_kp (xs : List Int) (t : T) (ts : List T) : sv xs (kp t ts) = term xs t + sv xs ts := by
  unfold kp
  split
  · next h => unfold term; rw [h]; simp
  · exact sv_cons _ _ _
theorem emod_mul_dvd (y k z : Int) : (2147483647 : Int) ∣ (y * k % 2147483647) * z - k * (y * z) := by
  have h := Int.emod_add_mul_ediv (y * k) 2147483647
  have e : (y * k % 2147483647) * z - k * (y * z) = 2147483647 * (-(y * k / 2147483647) * z) := by
    have h2 : y * k % 2147483647 = y * k - 2147483647 * (y * k / 2147483647) := by omega
    rw [h2, Int.sub_mul, show y * k * z = k * (y * z) by rw [Int.mul_comm y k, Int.mul_assoc]]
    generalize y * k / 2147483647 = q
    generalize k * (y * z) = r
    have : 2147483647 * (-q * z) = -(2147483647 * q * z) := by rw [Int.neg_mul, Int.mul_neg, Int.mul_assoc]
    omega
  rw [e]
  exact Int.dvd_mul_right _ _
theorem emod_dvd (a z : Int) : (2147483647 : Int) ∣ (a % 2147483647) * z - a * z := by
  have h2 : a % 2147483647 = a - 2147483647 * (a / 2147483647) := by have := Int.emod_add_mul_ediv a 2147483647; omega
  rw [h2, Int.sub_mul]
  have : a * z - 2147483647 * (a / 2147483647) * z - a * z = 2147483647 * (-(a / 2147483647 * z)) := by rw [Int.mul_assoc]; omega
  rw [this]
  exact Int.dvd_mul_right _ _
theorem term_tm (xs : List Int) (k : Int) (b : T) : (2147483647 : Int) ∣ term xs (tm k b) - k * term xs b := emod_mul_dvd _ _ _
theorem term_pl (xs : List Int) (k : Int) (a b : T) (h : a.1 = b.1) : (2147483647 : Int) ∣ term xs (pl a (tm k b)) - (term xs a + k * term xs b) := by
  have h1 := emod_dvd (a.2 + (tm k b).2) (xs[a.1.toNat]?.getD 0)
  have h2 := term_tm xs k b
  have e1 : term xs (pl a (tm k b)) = ((a.2 + (tm k b).2) % 2147483647) * (xs[a.1.toNat]?.getD 0) := rfl
  have e2 : (a.2 + (tm k b).2) * (xs[a.1.toNat]?.getD 0) = term xs a + term xs (tm k b) := by
    rw [Int.add_mul]
    show _ = a.2 * _ + (tm k b).2 * (xs[b.1.toNat]?.getD 0)
    rw [h]
  rw [e1]
  rw [e2] at h1
  omega
theorem sv_mrg (xs : List Int) (k : Int) : ∀ (ps bs : List T), (2147483647 : Int) ∣ sv xs (mrg k ps bs) - (sv xs ps + k * sv xs bs)
  | [], [] => by rw [mrg_nil]; simp [sv_nil]
  | a :: ps, [] => by
    rw [mrg_a, sv_kp, sv_cons]
    have := sv_mrg xs k ps []
    simp only [sv_nil] at *
    omega
  | [], b :: bs => by
    rw [mrg_b, sv_kp, sv_cons, Int.mul_add]
    have h1 := sv_mrg xs k [] bs
    have h2 := term_tm xs k b
    simp only [sv_nil] at *
    omega
  | a :: ps, b :: bs => by
    by_cases h : a.1 < b.1
    · rw [mrg_lt k a b ps bs h, sv_kp, sv_cons xs a]
      have := sv_mrg xs k ps (b :: bs)
      omega
    · by_cases h2 : b.1 < a.1
      · rw [mrg_gt k a b ps bs h2, sv_kp, sv_cons xs b, Int.mul_add]
        have h3 := sv_mrg xs k (a :: ps) bs
        have h4 := term_tm xs k b
        omega
      · have he : a.1 = b.1 := by omega
        rw [mrg_eq k a b ps bs he, sv_kp, sv_cons xs a, sv_cons xs b, Int.mul_add]
        have h3 := sv_mrg xs k ps bs
        have h4 := term_pl xs k a b he
        omega
  termination_by ps bs => ps.length + bs.length
theorem within_mrg (n : Nat) (k : Int) : ∀ (ps bs : List T), (∀ t ∈ ps, t.1 < (n : Int)) → (∀ t ∈ bs, t.1 < (n : Int)) → ∀ t ∈ mrg k ps bs, t.1 < (n : Int)
  | [], [], _, _ => by rw [mrg_nil]; simp
  | a :: ps, [], ha, hb => by
    rw [mrg_a]
    exact within_kp (ha a (by simp)) (within_mrg n k ps [] (fun t ht => ha t (by simp [ht])) hb)
  | [], b :: bs, ha, hb => by
    rw [mrg_b]
    exact within_kp (hb b (by simp)) (within_mrg n k [] bs ha (fun t ht => hb t (by simp [ht])))
  | a :: ps, b :: bs, ha, hb => by
    by_cases h : a.1 < b.1
    · rw [mrg_lt k a b ps bs h]
      exact within_kp (ha a (by simp)) (within_mrg n k ps (b :: bs) (fun t ht => ha t (by simp [ht])) hb)
    · by_cases h2 : b.1 < a.1
      · rw [mrg_gt k a b ps bs h2]
        exact within_kp (hb b (by simp)) (within_mrg n k (a :: ps) bs ha (fun t ht => hb t (by simp [ht])))
      · rw [mrg_eq k a b ps bs (by omega)]
        exact within_kp (ha a (by simp)) (within_mrg n k ps bs (fun t ht => ha t (by simp [ht])) (fun t ht => hb t (by simp [ht])))
  termination_by ps bs => ps.length + bs.length
where
  within_kp {n : Nat} {t : T} {l : List T} (h : t.1 < (n : Int)) (hl : ∀ u ∈ l, u.1 < (n : Int)) : ∀ u ∈ kp t l, u.1 < (n : Int) := by
    unfold kp
    split
    · exact hl
    · intro u hu
      rcases List.mem_cons.1 hu with rfl | hu
      · exact h
      · exact hl u hu
theorem valOk_iff {ts : List T} {xs : List Int} : valOk ts xs = true ↔ linOk ts = true ∧ isAsg xs = true ∧ within xs.length ts = true := by
  unfold valOk; simp [Bool.and_eq_true]
theorem val_mrg {ps bs : List T} {xs : List Int} (k : Int) (ha : valOk ps xs = true) (hb : valOk bs xs = true) :
    valOk (lcomb k ps bs) xs = true ∧ lok ps bs = true ∧ val (lcomb k ps bs) xs = (val ps xs + k * val bs xs) % 2147483647 := by
  obtain ⟨a1, a2, a3⟩ := valOk_iff.1 ha
  obtain ⟨b1, b2, b3⟩ := valOk_iff.1 hb
  have hl := lcomb_yes (k := k) a1 b1
  have wa : ∀ t ∈ ps, t.1 < (xs.length : Int) := of_decide_eq_true a3
  have wb : ∀ t ∈ bs, t.1 < (xs.length : Int) := of_decide_eq_true b3
  have ok : valOk (lcomb k ps bs) xs = true := by
    rw [hl.1]
    exact valOk_iff.2 ⟨linOk_mrg a1 b1, a2, decide_eq_true (within_mrg xs.length k ps bs wa wb)⟩
  refine ⟨ok, hl.2, ?_⟩
  rw [val_yes ok, val_yes ha, val_yes hb, hl.1, lval_sv, lval_sv, lval_sv]
  have h := sv_mrg xs k ps bs
  have h2 := emod_dvd (sv xs bs) k
  rw [Int.mul_comm (sv xs bs % 2147483647) k, Int.mul_comm (sv xs bs) k] at h2
  omega
theorem valOk_nil {xs : List Int} {ts : List T} (h : valOk ts xs = true) : valOk [] xs = true ∧ val [] xs = 0 := by
  have ok : valOk [] xs = true := valOk_iff.2 ⟨rfl, (valOk_iff.1 h).2.1, rfl⟩
  exact ⟨ok, by rw [val_yes ok]; rfl⟩
theorem val_const {ts : List T} {xs : List Int} (k : Int) (h : valOk ts xs = true) : valOk (constOf k) xs = true ∧ val (constOf k) xs = k % 2147483647 := by
  obtain ⟨_, h2, _⟩ := valOk_iff.1 h
  have hx : 1 ≤ xs.length ∧ xs.length ≤ 3000 ∧ xs[0]? = some 1 ∧ ∀ x ∈ xs, fl x := of_decide_eq_true h2
  by_cases hk : k % 2147483647 = 0
  · rw [show constOf k = [] from if_pos hk, hk]
    exact valOk_nil h
  · rw [show constOf k = [(0, k % 2147483647)] from if_neg hk]
    have ok : valOk [(0, k % 2147483647)] xs = true := valOk_iff.2 ⟨by unfold linOk okFrom okFrom; simp; omega, h2, decide_eq_true (by intro t ht; simp at ht; subst ht; simp; omega)⟩
    refine ⟨ok, ?_⟩
    rw [val_yes ok, lval_sv, sv_cons, sv_nil]
    have : term xs (0, k % 2147483647) = k % 2147483647 := by unfold term; simp [hx.2.2.1]
    rw [this]; omega
end Go.Proofs.Ytoeklalhbkdjnaa.L
