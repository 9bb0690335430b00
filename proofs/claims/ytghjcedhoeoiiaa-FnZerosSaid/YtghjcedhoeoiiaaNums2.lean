/- More on slices of numbers. -/
import Derived.Test.YtghjcedhoeoiiaaB6
import Derived.OwnWalk
namespace Go.Proofs.Ytghjcedhoeoiiaa.L
open Go.RowKit Go.Proofs.Ytghjcedhoeoiiaa.S
set_option linter.unusedVariables false
set_option linter.unusedSimpArgs false

theorem cell_one_new' (w : World) (x : Value) (t : TypeId) : ∀ j u, [x][j]? = some u → (w.alloc (.cells #[x] t)).cell? ((⟨w.heap.size, 0, none⟩ : Addr).add j) = some u := by
  intro j u hj
  rw [Go.WideShapes.add_plain]
  match j, hj with
  | 0, hj => simp at hj; subst hj; rw [World.cell?_alloc_at _ _ _ _ rfl]; rfl
theorem Nums.mono {own : Bool} {l h l' h' : Nat} {w : World} {v : Value} {ts : List Int} (ht : Nums own l h w v ts) (h1' : l' ≤ l) (h2' : h ≤ h') : Nums own l' h' w v ts := by
  obtain ⟨a, cap, rfl, h1, h2, h3, h4⟩ := ht
  refine ⟨a, cap, rfl, h1, h2, h3, ?_⟩
  rcases h4 with h4 | ⟨b, off, e, hl, hlt, hf, hc⟩
  · exact .inl h4
  · exact .inr ⟨b, off, e, by omega, by omega, hf, hc⟩
end Go.Proofs.Ytghjcedhoeoiiaa.L
