/- Values made ahead in a drawn region (written by tools/gen/less.py). -/
import Derived.Test.YtcenijdaacbgpaaYRgn
import Derived.Test.YtcenijdaacbgpaaBBits
import Derived.Test.YtcenijdaacbgpaaLessP
import Derived.Deep.DeepCutAuto
namespace Go.Proofs.Ytcenijdaacbgpaa.L
open Go.RowKit Go.Proofs.Ytcenijdaacbgpaa.S
set_option linter.unusedVariables false
set_option linter.unusedSimpArgs false

/-- A value made ahead: terms behind X. -/
def TV (X : World) (d : Bool) (u : Value) (xs : List T) (w : World) : Prop := d = true → ∃ a k, u = .agg #[.slice a xs.length k] ∧ Terms true X.heap.size w.heap.size w (.slice a xs.length k) xs
section
variable {X w w' : World} {d : Bool} {u : Value} {xs : List T}
theorem TV.keep (h : TV X d u xs w) (f : Below w.heap.size w w') : TV X d u xs w' := fun q => by
  obtain ⟨a, k, e, t⟩ := h q
  exact ⟨a, k, e, (t.keep f (Nat.le_refl _)).mono (Nat.le_refl _) f.size⟩
theorem TV.none : TV X false u xs w := fun q => by cases q
theorem TV.new {a : Option Addr} {k : Nat} (hx : X.heap.size ≤ w.heap.size) (t : Terms true w.heap.size w'.heap.size w' (.slice a xs.length k) xs) : TV X true (.agg #[.slice a xs.length k]) xs w' := fun _ => ⟨a, k, rfl, t.mono hx (Nat.le_refl _)⟩
theorem YR.keep {C F : List T} {d0 d2 d3 : Bool} {u16 u18 u7 : Value} (Z : YR C F X d0 d2 d3 u16 u18 u7 w) (f : Below w.heap.size w w') : YR C F X d0 d2 d3 u16 u18 u7 w' := by
  obtain ⟨b, c0, c2, c3⟩ := Z
  have zb := b.size
  have zf := f.size
  refine ⟨b.trans (f.mono zb), fun h => ?_, fun h => ?_, fun h => ?_⟩
  · obtain ⟨a', k', e, t'⟩ := c0 h; exact ⟨a', k', e, (t'.keep f (Nat.le_refl _)).mono (Nat.le_refl _) zf⟩
  · obtain ⟨a', k', l, hh, e, t', x1, x2, x4⟩ := c2 h; exact ⟨a', k', l, hh, e, t'.keep f x2, x1, by omega, x4⟩
  · obtain ⟨g6, z, e, x1, x2, x4, x5⟩ := c3 h; exact ⟨g6, z, e, x1, by omega, cell_keep f x4, (f.frozen (p := ⟨g6, 0, none⟩) x2).trans x5⟩
end
/-- Behind 'bits := ..': the world before the call of bits, and what it left. -/
def CutL (base g : Nat) (gv : Gv) (s : SysC) (b : Bd) (ls : List (List T)) (Q : Nat → Prop) (X : World) (v : Value) (w : World) : Prop :=
  ∃ wb Q2, Below X.heap.size X wb ∧ Bld base g gv s b Q2 w ∧ NewR wb.heap.size Q2 w v ls ∧ Ext Q Q2 wb w
/-- Behind 'return pure(..)': a value behind X, laid into the box R. -/
def CutQ (X : World) (R : Nat) (F : List T) (w : World) : Prop :=
  ∃ wb a k, w = wb.setCell ⟨R, 0, none⟩ (.slice a F.length k) ∧ Below X.heap.size X wb ∧ Terms true X.heap.size wb.heap.size wb (.slice a F.length k) F
end Go.Proofs.Ytcenijdaacbgpaa.L
