/- Facts of linear combinations as lists of terms: their negation, their factors, their values. -/
import Derived.Test.YtoeklalhbkdjnaaB4
import Derived.Test.YtoeklalhbkdjnaaCoeff
namespace Go.Proofs.Ytoeklalhbkdjnaa.L
open Go.RowKit Go.Shelf Go.Proofs.Ytoeklalhbkdjnaa.S
set_option linter.unusedVariables false
set_option linter.unusedSimpArgs false

theorem lok_nil (ts : List T) : lok [] ts = linOk ts := by unfold lok; simp [linOk, okFrom]
/-- The negation, term by term. -/
def negT (ts : List T) : List T := ts.map fun t => (t.1, 2147483647 - t.2)
theorem okFrom_fac {p : Int} {ts : List T} (h : okFrom p ts = true) : ∀ t ∈ ts, 0 < t.2 ∧ t.2 < 2147483647 := fun t ht => by have := okFrom_mem h t ht; omega
theorem mrg_neg : ∀ (ts : List T), (∀ t ∈ ts, 0 < t.2 ∧ t.2 < 2147483647) → mrg 2147483646 [] ts = negT ts
  | [], _ => by rw [mrg_nil]; rfl
  | t :: r, h => by
    have ht := h t (by simp)
    rw [mrg_b, mrg_neg r (fun u hu => h u (by simp [hu]))]
    have e : t.2 * 2147483646 % 2147483647 = 2147483647 - t.2 := by omega
    unfold kp tm
    simp only [e]
    rw [if_neg (by omega)]
    rfl
theorem mrg_cancel : ∀ (ts : List T), (∀ t ∈ ts, 0 < t.2 ∧ t.2 < 2147483647) → mrg 1 ts (negT ts) = []
  | [], _ => by show mrg 1 [] [] = []; rw [mrg_nil]
  | t :: r, h => by
    have ht := h t (by simp)
    show mrg 1 (t :: r) ((t.1, 2147483647 - t.2) :: negT r) = []
    rw [mrg_eq 1 t (t.1, 2147483647 - t.2) r (negT r) rfl, mrg_cancel r (fun u hu => h u (by simp [hu]))]
    have e : (t.2 + (2147483647 - t.2) * 1 % 2147483647) % 2147483647 = 0 := by omega
    unfold kp pl tm
    simp only [e]
    exact if_pos trivial
theorem neg_cancel {ts : List T} (h : linOk ts = true) : lcomb 1 ts (lcomb 2147483646 [] ts) = [] ∧ lok ts (lcomb 2147483646 [] ts) = true := by
  have hf : ∀ t ∈ ts, 0 < t.2 ∧ t.2 < 2147483647 := fun t ht => by have := linOk_mem h t ht; omega
  have h0 : linOk ([] : List T) = true := rfl
  have e1 : lcomb 2147483646 [] ts = mrg 2147483646 [] ts := (lcomb_yes h0 h).1
  have h2 : linOk (mrg 2147483646 [] ts) = true := linOk_mrg h0 h
  rw [e1]
  refine ⟨?_, (lcomb_yes (k := 1) h h2).2⟩
  rw [(lcomb_yes (k := 1) h h2).1, mrg_neg ts hf]
  exact mrg_cancel ts hf

theorem coeffOf_none {p : Int} : ∀ {ts : List T} {v : Int}, okFrom p ts = true → v ≤ p → coeffOf v ts = 0
  | [], _, _, _ => rfl
  | t :: r, v, h, hv => by
    obtain ⟨⟨h0, _⟩, h4⟩ := okFrom_cons h
    simp only [coeffOf]
    rw [if_neg (by omega)]
    exact coeffOf_none h4 (by omega)
theorem coeffOf_at {p : Int} : ∀ {ts : List T} {i : Nat} {t : T}, okFrom p ts = true → ts[i]? = some t → coeffOf t.1 ts = t.2
  | [], i, t, _, h => by simp at h
  | u :: r, 0, t, _, h => by simp at h; subst h; simp [coeffOf]
  | u :: r, i + 1, t, hk, h => by
    obtain ⟨_, h4⟩ := okFrom_cons hk
    have h' : r[i]? = some t := by simpa using h
    have hm := okFrom_mem h4 t (List.mem_of_getElem? h')
    simp only [coeffOf]
    rw [if_neg (by omega)]
    exact coeffOf_at h4 h'
theorem coeffOf_mem {p : Int} : ∀ {ts : List T} {v : Int}, okFrom p ts = true → (coeffOf v ts ≠ 0 ↔ ∃ t ∈ ts, t.1 = v)
  | [], v, _ => by simp [coeffOf]
  | t :: r, v, h => by
    obtain ⟨⟨h0, h1, h2, h3⟩, h4⟩ := okFrom_cons h
    have ih := coeffOf_mem (v := v) h4
    by_cases e : t.1 = v
    · simp only [coeffOf, e, if_true]
      exact ⟨fun _ => ⟨t, by simp, e⟩, fun _ => by omega⟩
    · simp only [coeffOf, e, if_false]
      rw [ih]
      constructor
      · rintro ⟨u, hu, q⟩; exact ⟨u, by simp [hu], q⟩
      · rintro ⟨u, hu, q⟩
        rcases List.mem_cons.1 hu with rfl | hu
        · exact absurd q e
        · exact ⟨u, hu, q⟩
/-- Does one of the first k terms have the variable v? -/
def fnd (ts : List T) (v : Int) (k : Nat) : Bool := (ts.take k).any fun t => t.1 == v
theorem fnd_step {ts : List T} {v : Int} {k : Nat} {t : T} (h : ts[k]? = some t) : fnd ts v (k + 1) = (fnd ts v k || t.1 == v) := by
  unfold fnd; rw [take_step h]; simp
theorem fnd_end {ts : List T} {v : Int} (h : linOk ts = true) : (fnd ts v ts.length == (coeffOf v ts != 0)) = true := by
  unfold fnd
  rw [List.take_length]
  have := coeffOf_mem (v := v) (show okFrom (-1) ts = true from h)
  cases hq : (ts.any fun t => t.1 == v) with
  | true =>
    have : coeffOf v ts ≠ 0 := this.2 (by obtain ⟨t, ht, e⟩ := List.any_eq_true.1 hq; exact ⟨t, ht, by simpa using e⟩)
    simp [this]
  | false =>
    have h0 : ¬ ∃ t ∈ ts, t.1 = v := by
      rintro ⟨t, ht, e⟩
      have : (ts.any fun t => t.1 == v) = true := List.any_eq_true.2 ⟨t, ht, by simp [e]⟩
      rw [hq] at this; cases this
    have : ¬ coeffOf v ts ≠ 0 := fun q => h0 (this.1 q)
    simp only [ne_eq, Decidable.not_not] at this
    simp [this]
end Go.Proofs.Ytoeklalhbkdjnaa.L
