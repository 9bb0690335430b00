/- No other bit satisfies: an assignment with one bit changed. -/
import Derived.Test.YtcenijdaacbgpaaB26
import Derived.Test.YtcenijdaacbgpaaGateY
namespace Go.Proofs.Ytcenijdaacbgpaa.L
open Go.RowKit Go.Proofs.Ytcenijdaacbgpaa.S
set_option linter.unusedVariables false
set_option linter.unusedSimpArgs false

theorem sum_set (f : Nat → Int) (b : Int) (j : Nat) : ∀ n, ((List.range n).map fun i => (if i = j then b else f i) * (2 : Int) ^ i).sum = ((List.range n).map fun i => f i * (2 : Int) ^ i).sum + (if j < n then (b - f j) * (2 : Int) ^ j else 0) := by
  intro n
  induction n with
  | zero => simp
  | succ n ih =>
    rw [List.range_succ, List.map_append, List.map_append, List.sum_append, List.sum_append, ih]
    simp only [List.map_cons, List.map_nil, List.sum_cons, List.sum_nil]
    by_cases q : n = j
    · subst q
      rw [if_neg (by omega), if_pos rfl, if_pos (by omega), Int.sub_mul]
      omega
    · rw [if_neg q]
      by_cases q2 : j < n
      · rw [if_pos q2, if_pos (by omega)]; omega
      · rw [if_neg q2, if_neg (by omega)]; omega
/-- Packed bits of which one is changed. -/
theorem sv_changed {base : List Int} {a : Int} (ha : 0 ≤ a) {k : Nat} (hk : base.length + k ≤ 3000) {j : Nat} (hj : j < k) (b : Int) :
    (2147483647 : Int) ∣ sv ((base ++ bitVs a k).set (base.length + j) b) (packS ((List.range k).map fun j : Nat => varOf ((base.length : Int) + j))) - (a % 2 ^ k + (b - a / 2 ^ j % 2) * 2 ^ j) := by
  have h := sv_pack ((base ++ bitVs a k).set (base.length + j) b) ((List.range k).map fun j : Nat => varOf ((base.length : Int) + j)) 0 []
  rw [psv_range, sv_nil] at h
  have e : ((List.range k).map fun i : Nat => sv ((base ++ bitVs a k).set (base.length + j) b) (varOf ((base.length : Int) + i)) * (2 : Int) ^ i) = (List.range k).map fun i => (if i = j then b else a / 2 ^ i % 2) * (2 : Int) ^ i := by
    refine List.map_congr_left fun i hi => ?_
    have hi' : i < k := List.mem_range.1 hi
    rw [show ((base.length : Int) + (i : Int)) = ((base.length + i : Nat) : Int) from by omega, sv_var (by omega), List.getElem?_set]
    by_cases q : i = j
    · subst q
      have hl : base.length + i < (base ++ bitVs a k).length := by rw [List.length_append, bitVs_len]; omega
      rw [if_pos rfl, if_pos hl, if_pos rfl]; rfl
    · rw [if_neg (by omega), if_neg q, List.getElem?_append_right (by omega)]
      simp [bitVs, hi']
  rw [e, sum_set (fun i => a / 2 ^ i % 2) b j k, if_pos hj, bits_sum ha] at h
  simpa [packS] using h
theorem bitOks : ((List.range 31).all fun j => linOk (varOf (((2 + j : Nat) : Int)))) = true := by kernel_rfl
theorem bit_only {xs : List Int} {v : Nat} (hv : v < 3000) (h0 : xs[0]? = some 1) {b : Int} (hb : xs[v]? = some b) (fb : fl b) (ok : linOk (varOf (v : Int)) = true) (h : holdsB xs (bitC v) = true) : b < 2 := by
  have hs := sv_var (xs := xs) hv
  rw [hb] at hs
  have hs' : sv xs (varOf (v : Int)) = b := hs
  have hc : sv xs (constOf 1) = 1 := by simp [sv, constOf, term, h0]
  have e0 : lval xs [] = 0 := rfl
  have hm := sv_mrg xs 2147483646 (varOf v) (constOf 1)
  have ok1 : linOk (constOf 1) = true := by kernel_rfl
  unfold holdsB bitC lcomb at h
  simp only [ok, ok1, Bool.and_self, if_true, e0, lval_sv, hs'] at h
  rw [hs', hc] at hm
  have fb' := fb
  unfold fl at fb'
  have e1 : sv xs (mrg 2147483646 (varOf (v : Int)) (constOf 1)) % 2147483647 = (b + 2147483646) % 2147483647 := by omega
  rw [e1, show b % 2147483647 = b from by omega] at h
  have h' : b * ((b + 2147483646) % 2147483647) % 2147483647 = 0 := by simpa using h
  exact (bit_iff fb).1 h'
/-- What satisfies with one bit changed has that bit. -/
theorem bits_firm {x b : Int} (hx : fl x) {n : Nat} (h : n ≤ 30) (q : x < 2 ^ n) {j : Nat} (hj : j < n) (hc : checkB (tBits n) (([1, x] ++ bitVs x n).set (2 + j) b) = true) : b = x / 2 ^ j % 2 := by
  have hf := bitsFacts_of h
  unfold bitsFacts at hf
  simp only [Bool.and_eq_true] at hf
  obtain ⟨⟨⟨⟨⟨-, -⟩, -⟩, hp⟩, hl⟩, -⟩ := hf
  have ha := (checkB_f2 hc).2.2
  have hlen : 2 + j < ([1, x] ++ bitVs x n).length := by rw [List.length_append, bitVs_len]; show 2 + j < 2 + n; omega
  have g0 : (([1, x] ++ bitVs x n).set (2 + j) b)[0]? = some 1 := by rw [List.getElem?_set, if_neg (by omega)]; rfl
  have g1 : (([1, x] ++ bitVs x n).set (2 + j) b)[1]? = some x := by rw [List.getElem?_set, if_neg (by omega)]; rfl
  have gj : (([1, x] ++ bitVs x n).set (2 + j) b)[2 + j]? = some b := by rw [List.getElem?_set, if_pos rfl, if_pos hlen]
  have fb : fl b := asg_at ha b (List.mem_of_getElem? gj)
  have hx' := hx
  unfold fl at hx'
  have hs : (2147483647 : Int) ∣ sv (([1, x] ++ bitVs x n).set (2 + j) b) (packS (zBits n)) - (x % 2 ^ n + (b - x / 2 ^ j % 2) * 2 ^ j) := sv_changed (base := [1, x]) (a := x) (by omega) (k := n) (by show 2 + n ≤ 3000; omega) hj b
  rw [Int.emod_eq_of_lt (by omega) q] at hs
  have hcons : allB (([1, x] ++ bitVs x n).set (2 + j) b) (tBits n).cons = true := by
    unfold checkB at hc
    simp only [Bool.and_eq_true] at hc
    exact hc.2.2.2
  rw [tBits_is h] at hcons
  generalize ([1, x] ++ bitVs x n).set (2 + j) b = xs at *
  unfold allB at hcons
  rw [List.all_append, Bool.and_eq_true] at hcons
  obtain ⟨hA, hB⟩ := hcons
  have hbj : holdsB xs (bitC ((2 + j : Nat) : Int)) = true := by
    refine List.all_eq_true.1 hA _ ?_
    exact List.mem_map.2 ⟨j, List.mem_range.2 hj, by rw [show (2 + (j : Int)) = ((2 + j : Nat) : Int) from by omega]⟩
  have b2 := bit_only (by omega) g0 gj fb (List.all_eq_true.1 bitOks j (List.mem_range.2 (by omega))) hbj
  have hB' : holdsB xs ⟨lcomb 2147483646 (packL (zBits n)) v1, constOf 1, []⟩ = true := by simpa using hB
  have e0 : lval xs [] = 0 := rfl
  have okx : linOk v1 = true := by kernel_rfl
  unfold holdsB packL lcomb at hB'
  rw [if_pos hp] at hB'
  simp only [hl, okx, Bool.and_self, if_true, e0, lval_one g0, lval_sv] at hB'
  have hv : sv xs v1 = x := by simp [sv, v1, term, g1]
  have hm := sv_mrg xs 2147483646 (packS (zBits n)) v1
  rw [hv] at hm
  have hz : sv xs (mrg 2147483646 (packS (zBits n)) v1) % 2147483647 * 1 % 2147483647 = 0 := by simpa using hB'
  have hbit := Int.emod_two_eq (x / 2 ^ j)
  have ht1 : (1 : Int) ≤ 2 ^ j := Int.pow_pos (by omega)
  have ht3 : (2 : Nat) ^ j ≤ 536870912 := Nat.pow_le_pow_right (n := 2) (by omega) (show j ≤ 29 by omega)
  have ht2 := Int.ofNat_le.2 ht3
  rw [Int.natCast_pow] at ht2
  replace ht2 : (2 : Int) ^ j ≤ 536870912 := ht2
  clear ht3
  unfold fl at fb
  generalize x / 2 ^ j % 2 = d at *
  generalize (2 : Int) ^ j = t at *
  generalize sv xs (mrg 2147483646 (packS (zBits n)) v1) = u at *
  generalize sv xs (packS (zBits n)) = v at *
  have hb : b = 0 ∨ b = 1 := by omega
  rcases hb with rfl | rfl <;> rcases hbit with rfl | rfl
  · rfl
  · exfalso; omega
  · exfalso; omega
  · rfl
end Go.Proofs.Ytcenijdaacbgpaa.L
