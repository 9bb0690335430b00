/- A value made in a drawn region and laid into a box: 'z := pure(pure, ..)'. -/
import Derived.Test.YtcenijdaacbgpaaGreatB15
import Derived.Test.YtcenijdaacbgpaaGreatMGate2
import Derived.Test.YtcenijdaacbgpaaGreatB17
import Derived.Test.YtcenijdaacbgpaaGreatB3
import Derived.Deep.DeepCutAuto
namespace Go.Proofs.YtcenijdaacbgpaaGreat.L
open Go.RowKit Go.Proofs.YtcenijdaacbgpaaGreat.S
set_option linter.unusedVariables false
set_option linter.unusedSimpArgs false

theorem nopm {a : Bool} {p : Prop} (h : a = false) : a = true → p := fun q => by rw [h] at q; cases q
/-- 'z := pure(pure, ..)' in whatever order: d0: the constant; d2: the difference; d3: the box; (behind the store: CutY). -/
def YR (C F : List T) (X : World) (d0 d2 d3 : Bool) (u16 u18 u7 : Value) (w : World) : Prop :=
 Below X.heap.size X w ∧
  (d0 = true → ∃ a k, u16 = .agg #[.slice a C.length k] ∧ Terms true X.heap.size w.heap.size w (.slice a C.length k) C) ∧
  (d2 = true → ∃ a k l h, u18 = .agg #[.slice a F.length k] ∧ Terms true l h w (.slice a F.length k) F ∧ X.heap.size ≤ l ∧ h ≤ w.heap.size ∧ (d3 = true → ∀ g6, u7 = .pointer (some ⟨g6, 0, none⟩) → g6 < l ∨ h ≤ g6)) ∧
  (d3 = true → ∃ g6 z, u7 = .pointer (some ⟨g6, 0, none⟩) ∧ X.heap.size ≤ g6 ∧ g6 < w.heap.size ∧ w.cell? ⟨g6, 0, none⟩ = some z ∧ w.frozen? ⟨g6, 0, none⟩ = false)
def CutY (F : List T) (X : World) (s7 : Value) (w : World) : Prop :=
 ∃ g6 a k l h, s7 = .pointer (some ⟨g6, 0, none⟩) ∧ Below X.heap.size X w ∧ X.heap.size ≤ g6 ∧ g6 < w.heap.size ∧ w.cell? ⟨g6, 0, none⟩ = some (.slice a F.length k) ∧ Terms true l h w (.slice a F.length k) F ∧ X.heap.size ≤ l ∧ h ≤ w.heap.size ∧ (g6 < l ∨ h ≤ g6)
section
variable {C F : List T} {X : World} {d0 d2 d3 : Bool} {u16 u18 u7 : Value} {w w' : World}
theorem YR.start : YR C F X false false false u16 u18 u7 X := ⟨Below.refl _ _, fun h => (by cases h), fun h => (by cases h), fun h => (by cases h)⟩
theorem YR.const {a : Option Addr} {k : Nat} (Z : YR C F X d0 d2 d3 u16 u18 u7 w) (f : Below w.heap.size w w') (t : Terms true w.heap.size w'.heap.size w' (.slice a C.length k) C) : YR C F X true d2 d3 (.agg #[.slice a C.length k]) u18 u7 w' := by
 obtain ⟨b, c0, c2, c3⟩ := Z
 have zb := b.size
 have zf := f.size
 refine ⟨b.trans (f.mono zb), fun _ => ⟨a, k, rfl, t.mono zb (Nat.le_refl _)⟩, fun h => ?_, fun h => ?_⟩
 ·obtain ⟨a', k', l, hh, e, t', x1, x2, x4⟩ := c2 h; exact ⟨a', k', l, hh, e, t'.keep f x2, x1, by omega, x4⟩
 ·obtain ⟨g6, z, e, x1, x2, x4, x5⟩ := c3 h; exact ⟨g6, z, e, x1, by omega, cell_keep f x4, (f.frozen (p := ⟨g6, 0, none⟩) x2).trans x5⟩
theorem YR.diff {a : Option Addr} {k : Nat} (Z : YR C F X d0 d2 d3 u16 u18 u7 w) (f : Below w.heap.size w w') (t : Terms true w.heap.size w'.heap.size w' (.slice a F.length k) F) : YR C F X d0 true d3 u16 (.agg #[.slice a F.length k]) u7 w' := by
 obtain ⟨b, c0, c2, c3⟩ := Z
 have zb := b.size
 have zf := f.size
 refine ⟨b.trans (f.mono zb), fun h => ?_, fun _ => ⟨a, k, w.heap.size, w'.heap.size, rfl, t, zb, Nat.le_refl _, fun h g6 e6 => ?_⟩, fun h => ?_⟩
 ·obtain ⟨a', k', e, t'⟩ := c0 h; exact ⟨a', k', e, (t'.keep f (Nat.le_refl _)).mono (Nat.le_refl _) zf⟩
 ·obtain ⟨g6', z, e, x1, x2, -⟩ := c3 h
  rw [e] at e6; simp at e6; omega
 ·obtain ⟨g6, z, e, x1, x2, x4, x5⟩ := c3 h; exact ⟨g6, z, e, x1, by omega, cell_keep f x4, (f.frozen (p := ⟨g6, 0, none⟩) x2).trans x5⟩
theorem YR.box {z : Value} {t : TypeId} (Z : YR C F X d0 d2 d3 u16 u18 u7 w) : YR C F X d0 d2 true u16 u18 (.pointer (some ⟨w.heap.size, 0, none⟩)) (w.alloc (.cells #[z] t)) := by
 obtain ⟨b, c0, c2, c3⟩ := Z
 have f : Below w.heap.size w (w.alloc (.cells #[z] t)) := (Below.refl _ _).alloc (Nat.le_refl _) _
 have zb := b.size
 have zf := f.size
 refine ⟨b.trans (f.mono zb), fun h => ?_, fun h => ?_, fun _ => ⟨w.heap.size, z, rfl, zb, by simp, by simp, by simp⟩⟩
 ·obtain ⟨a', k', e, t'⟩ := c0 h; exact ⟨a', k', e, (t'.keep f (Nat.le_refl _)).mono (Nat.le_refl _) zf⟩
 ·obtain ⟨a', k', l, hh, e, t', x1, x2, x4⟩ := c2 h
  exact ⟨a', k', l, hh, e, t'.keep f x2, x1, by omega, fun _ g6 e6 => by simp at e6; omega⟩
theorem YR.pre (Z : YR C F X d0 d2 d3 u16 u18 u7 w) (h2 : d2 = true) (h3 : d3 = true) : ∃ g6 z a k, u7 = .pointer (some ⟨g6, 0, none⟩) ∧ u18 = .agg #[.slice a F.length k] ∧ w.cell? ⟨g6, 0, none⟩ = some z ∧ w.frozen? ⟨g6, 0, none⟩ = false ∧ g6 < w.heap.size := by
 obtain ⟨b, c0, c2, c3⟩ := Z
 obtain ⟨a', k', l, hh, e, t', x1, x2, x4⟩ := c2 h2
 obtain ⟨g6, z, e6, y1, y2, y4, y5⟩ := c3 h3
 exact ⟨g6, z, a', k', e6, e, y4, y5, y2⟩
theorem YR.store {g6 : Nat} {a : Option Addr} {k : Nat} (Z : YR C F X d0 d2 d3 u16 u18 u7 w) (h2 : d2 = true) (h3 : d3 = true) (e6 : u7 = .pointer (some ⟨g6, 0, none⟩)) (e16 : u18 = .agg #[.slice a F.length k]) :
  CutY F X u7 (w.setCell ⟨g6, 0, none⟩ (.slice a F.length k)) := by
 obtain ⟨b, c0, c2, c3⟩ := Z
 obtain ⟨a', k', l, hh, e, t', x1, x2, x4⟩ := c2 h2
 obtain ⟨g6', z, e6', y1, y2, y4, y5⟩ := c3 h3
 rw [e6'] at e6; simp at e6; subst e6
 rw [e] at e16; simp at e16; obtain ⟨rfl, rfl⟩ := e16
 have hd := x4 h3 _ e6'
 refine ⟨g6', a', k', l, hh, e6', b.setCell y1 _, y1, by simpa [World.setCell] using y2, World.cell?_setCell_same _ _ _ y4, ?_, x1, by simpa [World.setCell] using x2, hd⟩
 exact t'.only (lo := g6') (hi := g6' + 1) (Only.setCell (p := ⟨g6', 0, none⟩) (Only.refl _ _ w) (Nat.le_refl _) (Nat.lt_succ_self _) _) (by omega) x2
end

end Go.Proofs.YtcenijdaacbgpaaGreat.L
