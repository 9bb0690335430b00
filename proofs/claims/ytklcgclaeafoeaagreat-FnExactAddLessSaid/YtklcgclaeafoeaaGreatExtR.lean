/- A system extended by what a function literal adds, with a row of combinations as its result (written by tools/gen/extr.py). -/
import Derived.Test.YtklcgclaeafoeaaGreatB19
import Derived.Test.YtklcgclaeafoeaaGreatBBits
namespace Go.Proofs.YtklcgclaeafoeaaGreat.L
open Go.RowKit Go.Proofs.YtklcgclaeafoeaaGreat.S
set_option linter.unusedVariables false
set_option linter.unusedSimpArgs false

theorem NewR.rowF {base : Nat} {Q : Nat → Prop} {w : World} {v : Value} {ls : List (List T)} (t : NewR base Q w v ls) : RowF FShape.lin (fun k => base ≤ k ∧ k < w.heap.size ∧ ¬ Q k) w v ls := by
 obtain ⟨R, F, g, h1, h2⟩ := t
 exact (RowF.of_grow g h1 (fun k hk => (h2 k (.inr hk)).2.1)).mono (fun k hk => h2 k hk)
/-- The answer: a system, a row of combinations, and whether there was room. -/
def ExtR (ok : Bool) (r : SysC) (v : List (List T)) (w : World) (e : Ending) (w' : World) : Prop :=
 ∃ ui uo uh uc u F G, e = .returned (.tuple #[.agg #[ui, uo, uh, uc], u, .bool ok]) ∧ Below w.heap.size w w' ∧ SysF F w' ui uo uh uc r ∧ RowF FShape.lin G w' u v ∧ (∀ k, F k → w.heap.size ≤ k) ∧ (∀ k, G k → w.heap.size ≤ k ∧ k < w'.heap.size ∧ ¬ F k)
theorem ExtR.of {ok ok' : Bool} {r r' : SysC} {v v' : List (List T)} {w w' : World} {ui uo uh uc u : Value} {F G : Nat → Prop} (e1 : ok' = ok) (e2 : r' = r) (e3 : v' = v) (h1 : Below w.heap.size w w') (h2 : SysF F w' ui uo uh uc r) (h3 : RowF FShape.lin G w' u v) (h4 : ∀ k, F k → w.heap.size ≤ k) (h5 : ∀ k, G k → w.heap.size ≤ k ∧ k < w'.heap.size ∧ ¬ F k) :
  ExtR ok' r' v' w (.returned (.tuple #[.agg #[ui, uo, uh, uc], u, .bool ok])) w' := by
 subst e1 e2 e3; exact ⟨ui, uo, uh, uc, u, F, G, rfl, h1, h2, h3, h4, h5⟩

end Go.Proofs.YtklcgclaeafoeaaGreat.L
