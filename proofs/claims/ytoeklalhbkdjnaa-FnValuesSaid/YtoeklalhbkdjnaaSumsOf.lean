/- Quotients come back, sums of lists are sums of their parts, dot products are symmetric: on drawn inputs. -/
import Derived.Test.YtoeklalhbkdjnaaList
import Derived.Test.YtoeklalhbkdjnaaFields
import Derived.Test.YtoeklalhbkdjnaaSumLaws
namespace Go.Proofs.Ytoeklalhbkdjnaa
open Go.RowKit
set_option linter.unusedVariables false

theorem ints_of_own {w : World} {base : Nat} {v : Value} {m : Nat} {xs : List Int} (h : w.ownsRow base 3 1 v m (xs.map (Value.int .i64))) (hm : xs.length = m) (hf : ∀ x ∈ xs, Fits x) : S.Ints w.heap.size w v xs := by
  rcases h.2 with ⟨rfl, h0⟩ | ⟨g, cap, cur, rfl, hb, hg, hc, hcm, hs, ht⟩
  · subst h0
    have : xs = [] := List.eq_nil_of_length_eq_zero hm
    subst this
    exact ⟨none, 0, rfl, Nat.le_refl _, by omega, by simp, .inl rfl⟩
  · refine ⟨some ⟨g, 0, none⟩, cap, by rw [hm], by omega, by unfold maxLen at hcm; omega, hf, ?_⟩
    refine .inr ⟨g, 0, rfl, (h.lt g rfl).2, fun j x hx => ?_⟩
    have hj : j < m := by rw [← hm]; exact (List.getElem?_eq_some_iff.1 hx).1
    rw [Nat.zero_add, h.cellAt j (by omega), List.getElem?_map, hx]
    rfl

/-- A drawn list: its value, and that nothing old was written. -/
def DrawnList (w : World) (e : Ending) (w' : World) : Prop := ∃ v xs, e = .returned v ∧ S.Ints w'.heap.size w' v xs ∧ Below w.heap.size w w'

/-- Two drawn lists. -/
def DrawnLists (w : World) (e : Ending) (w' : World) : Prop := ∃ v u xs ys, e = .returned (.tuple #[v, u]) ∧ S.Ints w'.heap.size w' v xs ∧ S.Ints w'.heap.size w' u ys ∧ Below w.heap.size w w'

theorem ints_take {lim : Nat} {w : World} {a : Option Addr} {len cap : Nat} {xs : List Int} (h : S.Ints lim w (.slice a len cap) xs) (k : Nat) (hk : k ≤ len) : S.Ints lim w (.slice a k cap) (xs.take k) := by
  obtain ⟨a', cap', e, h1, h2, h3, h4⟩ := h
  simp only [Value.slice.injEq] at e
  obtain ⟨rfl, rfl, rfl⟩ := e
  have hl : (xs.take k).length = k := by simp; omega
  refine ⟨a, cap, by rw [hl], by omega, h2, fun x hx => h3 x (List.mem_of_mem_take hx), ?_⟩
  rcases h4 with h4 | ⟨b, off, e, hlt, hc⟩
  · exact .inl (by rw [h4]; simp)
  · refine .inr ⟨b, off, e, hlt, fun j x hx => hc j x ?_⟩
    have hj : j < k := by have := (List.getElem?_eq_some_iff.1 hx).1; omega
    rwa [List.getElem?_take, if_pos hj] at hx
theorem ints_drop {lim : Nat} {w : World} {b off len cap : Nat} {xs : List Int} (h : S.Ints lim w (.slice (some ⟨b, off, none⟩) len cap) xs) (k : Nat) (hk : k < len) : S.Ints lim w (.slice (some ⟨b, off + k, none⟩) (len - k) (cap - k)) (xs.drop k) := by
  obtain ⟨a', cap', e, h1, h2, h3, h4⟩ := h
  simp only [Value.slice.injEq] at e
  obtain ⟨rfl, rfl, rfl⟩ := e
  have hl : (xs.drop k).length = xs.length - k := by simp
  refine ⟨_, cap - k, by rw [hl], by omega, by omega, fun x hx => h3 x (List.mem_of_mem_drop hx), ?_⟩
  rcases h4 with h4 | ⟨b', off', e, hlt, hc⟩
  · subst h4; simp at hk
  · simp only [Option.some.injEq, Addr.mk.injEq, and_true] at e
    obtain ⟨rfl, rfl⟩ := e
    refine .inr ⟨b, off + k, rfl, hlt, fun j x hx => ?_⟩
    rw [List.getElem?_drop] at hx
    rw [Nat.add_assoc]
    exact hc _ x hx

/-- The sum of the parts. -/
theorem fsum_split (xs : List Int) (k : Nat) : (0 ≤ S.fsum xs ∧ 0 ≤ S.fsum (xs.take k) ∧ 0 ≤ S.fsum (xs.drop k) ∧ (S.fsum (xs.take k) + S.fsum (xs.drop k)) % 2147483647 = S.fsum xs) ∨ (S.fsum xs < 0 ∧ S.fsum (xs.take k) < 0) ∨ (S.fsum xs < 0 ∧ 0 ≤ S.fsum (xs.take k) ∧ S.fsum (xs.drop k) < 0) := by
  by_cases h : ∀ x ∈ xs, S.fld x
  · have h1 : ∀ x ∈ xs.take k, S.fld x := fun x hx => h x (List.mem_of_mem_take hx)
    have h2 : ∀ x ∈ xs.drop k, S.fld x := fun x hx => h x (List.mem_of_mem_drop hx)
    left
    unfold S.fsum
    rw [if_pos h, if_pos h1, if_pos h2]
    have e : xs.sum = (xs.take k).sum + (xs.drop k).sum := by rw [← List.sum_append, List.take_append_drop]
    rw [e]
    omega
  · right
    have hs : S.fsum xs < 0 := by unfold S.fsum; rw [if_neg h]; omega
    by_cases h1 : ∀ x ∈ xs.take k, S.fld x
    · right
      have h2 : ¬ ∀ x ∈ xs.drop k, S.fld x := fun h2 => h fun x hx => by
        rw [← List.take_append_drop k xs] at hx
        rcases List.mem_append.1 hx with hx | hx
        · exact h1 x hx
        · exact h2 x hx
      refine ⟨hs, ?_, ?_⟩
      · unfold S.fsum; rw [if_pos h1]; omega
      · unfold S.fsum; rw [if_neg h2]; omega
    · left; refine ⟨hs, ?_⟩; unfold S.fsum; rw [if_neg h1]; omega
theorem fsum_bd (xs : List Int) : -1 ≤ S.fsum xs ∧ S.fsum xs < 2147483647 := by unfold S.fsum; split <;> omega

theorem fdiv_yes {a b : Int} (ha : S.fld a) (hb : S.fld b) : fdiv a b = a * M.pw b 2147483645 % 2147483647 := if_pos ⟨ha, hb⟩
theorem fdiv_back {a b : Int} (ha : S.fld a) (hb : S.fld b) (h : 0 < b) : fdiv a b * b % 2147483647 = a := by
  obtain ⟨a0, a1⟩ := ha
  obtain ⟨b0, b1⟩ := hb
  have h1 := M.pw_inv b (by omega)
  rw [fdiv_yes ⟨a0, a1⟩ ⟨b0, b1⟩, Int.mul_emod, Int.emod_emod, ← Int.mul_emod, Int.mul_assoc, Int.mul_comm (M.pw b _) b, Int.mul_emod, h1, Int.mul_one, Int.emod_emod]
  omega
theorem fdiv_zero {a : Int} (ha : S.fld a) : fdiv a 0 = 0 := by
  rw [fdiv_yes ha ⟨by omega, by omega⟩, M.pw_none 0 (by omega)]
  simp
theorem fdiv_bd (a b : Int) : -1 ≤ fdiv a b ∧ fdiv a b < 2147483647 := by unfold fdiv; split <;> omega
theorem fneg_bd (a : Int) : -1 ≤ fneg a ∧ fneg a < 2147483647 := by unfold fneg; split <;> omega
theorem fneg_yes {a : Int} (h : S.fld a) : (a + fneg a) % 2147483647 = 0 := by rw [show fneg a = (0 - a) % 2147483647 from if_pos h]; omega
theorem fneg_no {a : Int} (h : ¬ S.fld a) : fneg a = -1 := if_neg h

theorem Row.mono {B B' : Nat} {w : World} {a : Option Addr} {len : Nat} (h : Row B w a len) (hb : B ≤ B') : Row B' w a len := by
  obtain ⟨h1, h2⟩ := h
  refine ⟨h1, ?_⟩
  rcases h2 with h2 | ⟨b, off, e, hl, hc⟩
  · exact .inl h2
  · exact .inr ⟨b, off, e, Nat.lt_of_lt_of_le hl hb, hc⟩

end Go.Proofs.Ytoeklalhbkdjnaa
