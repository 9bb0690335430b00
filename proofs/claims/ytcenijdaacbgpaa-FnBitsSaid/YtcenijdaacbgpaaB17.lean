/- B17: SpecAdd SpecSub -/
import Derived.Test.YtcenijdaacbgpaaB16
import Derived.OwnWalk
set_option linter.unusedVariables false
set_option linter.unusedSimpArgs false
/- The model's sum of linear combinations. -/
namespace Go.Proofs.Ytcenijdaacbgpaa.L
open Go.RowKit Go.Shelf Go.Proofs.Ytcenijdaacbgpaa.S
set_option linter.unusedVariables false
set_option linter.unusedSimpArgs false

/-- Each factor is a number of the field (the variables may be any). -/
structure KIn (xs : List T) : Prop where
  out : ∀ t ∈ xs, 0 ≤ t.2 ∧ t.2 < 2147483647
theorem KIn.of_ok {xs : List T} (h : linOk xs = true) : KIn xs := ⟨fun t ht => by have := linOk_mem h t ht; omega⟩
theorem KIn.at {xs : List T} (h : KIn xs) {i : Nat} {t : T} (hi : xs[i]? = some t) : 0 ≤ t.2 ∧ t.2 < 2147483647 := h.out t (List.mem_of_getElem? hi)
theorem KIn.nil : KIn [] := ⟨fun t ht => by cases ht⟩
theorem KIn.one {v k : Int} (h0 : 0 ≤ k) (h1 : k < 2147483647) : KIn [(v, k)] := ⟨fun t ht => by rw [List.mem_singleton] at ht; subst ht; exact ⟨h0, h1⟩⟩
theorem kp_mem {t : T} {l : List T} {x : T} (h : x ∈ kp t l) : x = t ∨ x ∈ l := by
  unfold kp at h; split at h
  · exact .inr h
  · exact List.mem_cons.1 h
theorem mrg_mem (k : Int) : ∀ (xs ys : List T), KIn xs → ∀ t ∈ mrg k xs ys, ((∃ u ∈ xs, u.1 = t.1) ∨ ∃ u ∈ ys, u.1 = t.1) ∧ 0 ≤ t.2 ∧ t.2 < 2147483647
  | [], [], _, t, ht => by rw [mrg_nil] at ht; cases ht
  | a :: xs, [], hx, t, ht => by
    rw [mrg_a] at ht
    rcases kp_mem ht with rfl | h
    · exact ⟨.inl ⟨_, by simp, rfl⟩, hx.out _ (by simp)⟩
    · obtain ⟨h1, h2⟩ := mrg_mem k xs [] ⟨fun t ht => hx.out t (by simp [ht])⟩ t h
      refine ⟨?_, h2⟩
      rcases h1 with ⟨u, hu, e⟩ | ⟨u, hu, e⟩
      · exact .inl ⟨u, by simp [hu], e⟩
      · cases hu
  | [], b :: ys, hx, t, ht => by
    rw [mrg_b] at ht
    rcases kp_mem ht with rfl | h
    · exact ⟨.inr ⟨b, by simp, rfl⟩, by simp only [tm]; omega⟩
    · obtain ⟨h1, h2⟩ := mrg_mem k [] ys hx t h
      refine ⟨?_, h2⟩
      rcases h1 with ⟨u, hu, e⟩ | ⟨u, hu, e⟩
      · cases hu
      · exact .inr ⟨u, by simp [hu], e⟩
  | a :: xs, b :: ys, hx, t, ht => by
    have hx' : KIn xs := ⟨fun t ht => hx.out t (by simp [ht])⟩
    by_cases h1 : a.1 < b.1
    · rw [mrg_lt _ _ _ _ _ h1] at ht
      rcases kp_mem ht with rfl | h
      · exact ⟨.inl ⟨_, by simp, rfl⟩, hx.out _ (by simp)⟩
      · obtain ⟨h1, h2⟩ := mrg_mem k xs (b :: ys) hx' t h
        refine ⟨?_, h2⟩
        rcases h1 with ⟨u, hu, e⟩ | ⟨u, hu, e⟩
        · exact .inl ⟨u, by simp [hu], e⟩
        · exact .inr ⟨u, hu, e⟩
    · by_cases h2 : b.1 < a.1
      · rw [mrg_gt _ _ _ _ _ h2] at ht
        rcases kp_mem ht with rfl | h
        · exact ⟨.inr ⟨b, by simp, rfl⟩, by simp only [tm]; omega⟩
        · obtain ⟨h1, h2⟩ := mrg_mem k (a :: xs) ys hx t h
          refine ⟨?_, h2⟩
          rcases h1 with ⟨u, hu, e⟩ | ⟨u, hu, e⟩
          · exact .inl ⟨u, hu, e⟩
          · exact .inr ⟨u, by simp [hu], e⟩
      · rw [mrg_eq _ _ _ _ _ (by omega)] at ht
        rcases kp_mem ht with rfl | h
        · exact ⟨.inl ⟨a, by simp, rfl⟩, by simp only [pl]; omega⟩
        · obtain ⟨h1, h2⟩ := mrg_mem k xs ys hx' t h
          refine ⟨?_, h2⟩
          rcases h1 with ⟨u, hu, e⟩ | ⟨u, hu, e⟩
          · exact .inl ⟨u, by simp [hu], e⟩
          · exact .inr ⟨u, by simp [hu], e⟩
theorem KIn.mrg {k : Int} {xs ys : List T} (hx : KIn xs) : KIn (mrg k xs ys) := ⟨fun t ht => (mrg_mem k xs ys hx t ht).2⟩
theorem mrg_fits {k : Int} {xs ys : List T} (hx : KIn xs) (fx : ∀ t ∈ xs, Fits t.1 ∧ Fits t.2) (fy : ∀ t ∈ ys, Fits t.1 ∧ Fits t.2) : ∀ t ∈ mrg k xs ys, Fits t.1 ∧ Fits t.2 := fun t ht => by
  obtain ⟨h1, h2⟩ := mrg_mem k xs ys hx t ht
  refine ⟨?_, by unfold Fits; omega⟩
  rcases h1 with ⟨u, hu, e⟩ | ⟨u, hu, e⟩
  · rw [← e]; exact (fx u hu).1
  · rw [← e]; exact (fy u hu).1

end Go.Proofs.Ytcenijdaacbgpaa.L

/- The model's differences of combinations. -/
namespace Go.Proofs.Ytcenijdaacbgpaa.L
open Go.RowKit Go.Shelf Go.Proofs.Ytcenijdaacbgpaa.S
set_option linter.unusedVariables false
set_option linter.unusedSimpArgs false

end Go.Proofs.Ytcenijdaacbgpaa.L
