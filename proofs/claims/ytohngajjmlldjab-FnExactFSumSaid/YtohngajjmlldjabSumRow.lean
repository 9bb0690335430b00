/- From what the frame of a law tells of a slice of numbers to what the walks ask. -/
import Derived.Test.YtohngajjmlldjabSumLaws
import Derived.OpenShut
namespace Go.Proofs.Ytohngajjmlldjab.S
open Go.RowKit Go.OpenShut
set_option linter.unusedVariables false

theorem Ints.of {w : World} {a : Option Addr} {len cap : Nat} {zs : List Int}
    (h : (a = none ∧ len = 0 ∧ cap = 0 ∧ zs = []) ∨ ∃ x, a = some x ∧ len ≤ cap ∧ cap ≤ maxLen ∧ zs.length = cap ∧ (∀ i, i < zs.length → w.cell? (x.add i) = some (.int .i64 (zs.getD i 0))) ∧ ∀ n ∈ zs, (Lit.int .i64 n).wf = true) : Ints w.heap.size w (.slice a len cap) (zs.take len) := by
  rcases h with ⟨rfl, rfl, rfl, rfl⟩ | ⟨x, rfl, hl, hm, hz, hc, hw⟩
  · exact ⟨none, 0, rfl, Nat.le_refl _, by omega, by simp, .inl rfl⟩
  · unfold maxLen at hm
    have hlen : (zs.take len).length = len := by simp; omega
    refine ⟨some x, cap, by rw [hlen], by omega, by omega, fun n hn => ?_, ?_⟩
    · exact bounds_i64 (hw n (List.mem_of_mem_take hn))
    · by_cases h : len = 0
      · exact .inl (by rw [h]; rfl)
      · obtain ⟨b, off, rfl, hcc⟩ := ints_at hc (by omega)
        refine .inr ⟨b, off, rfl, World.block_lt_of_cell? w ⟨b, off + 0, none⟩ (hcc 0 (by omega)), fun j x hx => ?_⟩
        have hj : j < len := by have := (List.getElem?_eq_some_iff.1 hx).1; omega
        rw [List.getElem?_take, if_pos hj] at hx
        rw [hcc j (by omega), List.getD_eq_getElem?_getD, hx]
        rfl
end Go.Proofs.Ytohngajjmlldjab.S
