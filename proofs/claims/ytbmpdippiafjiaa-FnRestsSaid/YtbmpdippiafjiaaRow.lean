/- From what the frame of a law tells of a slice of bytes to what the draws ask. -/
import Derived.Test.YtbmpdippiafjiaaDrawF
import Derived.OpenShut
namespace Go.Proofs.Ytbmpdippiafjiaa
open Go.RowKit Go.OpenShut
set_option linter.unusedVariables false

theorem Row.of {w : World} {a : Option Addr} {len cap : Nat} {zs : List Int}
    (h : (a = none ∧ len = 0 ∧ cap = 0 ∧ zs = []) ∨ ∃ x, a = some x ∧ len ≤ cap ∧ cap ≤ maxLen ∧ zs.length = cap ∧ (∀ i, i < zs.length → w.cell? (x.add i) = some (.int .u8 (zs.getD i 0))) ∧ ∀ n ∈ zs, (Lit.int .u8 n).wf = true) : Row w.heap.size w a len := by
  rcases h with ⟨_, h, _, _⟩ | ⟨x, rfl, hl, hm, hz, hc, hw⟩
  · exact ⟨by omega, .inl h⟩
  · refine ⟨Nat.le_trans hl hm, ?_⟩
    by_cases h : len = 0
    · exact .inl h
    · obtain ⟨b, off, rfl, hcc⟩ := ints_at hc (by omega)
      refine .inr ⟨b, off, rfl, World.block_lt_of_cell? w ⟨b, off + 0, none⟩ (hcc 0 (by omega)), fun j hj => ?_⟩
      have hj' : j < zs.length := by omega
      have hm : zs.getD j 0 ∈ zs := by rw [List.getD_eq_getElem?_getD, List.getElem?_eq_getElem hj']; exact List.getElem_mem _
      have hb := bounds_u8 (hw _ hm)
      exact ⟨_, hb.1, hb.2, hcc j hj'⟩
end Go.Proofs.Ytbmpdippiafjiaa
