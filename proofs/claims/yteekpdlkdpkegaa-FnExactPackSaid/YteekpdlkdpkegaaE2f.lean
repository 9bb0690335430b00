/- Exact laws of layer 2 (written by tools/genexact.py): the program's function and its model return the same, write into no argument, and own what they return. -/
import Derived.Test.YteekpdlkdpkegaaSpecLin
import Derived.Deep.DeepCutAuto
namespace Go.Proofs.Yteekpdlkdpkegaa.L
open Go.RowKit Go.Proofs.Yteekpdlkdpkegaa.S
set_option linter.unusedVariables false
set_option linter.unusedSimpArgs false

theorem chain_step {X Y Z : World} (f : Below Y.heap.size Y Z) (h : Below X.heap.size X Y) : Below X.heap.size X Z := h.trans (f.mono h.size)
theorem keep2 {X W : World} {a b : Addr} {u v : Value} (h1 : X.cell? a = some u) (h2 : X.cell? b = some v) (be : Below X.heap.size X W) : W.cell? a = some u ∧ W.cell? b = some v ∧ Below X.heap.size X W := ⟨cell_keep be h1, cell_keep be h2, be⟩
/-- Where the ways through a drawn region meet: the answer lies in a box of its own. -/
def CutW (X : World) (F : List T) (ok : Bool) (s6 s7 : Value) (wx : World) : Prop :=
  ∃ g a k, s6 = .pointer (some ⟨g, 0, none⟩) ∧ s7 = .bool ok ∧ X.heap.size ≤ g ∧ wx.cell? ⟨g, 0, none⟩ = some (.slice a F.length k) ∧ Below X.heap.size X wx ∧ Terms true X.heap.size wx.heap.size wx (.slice a F.length k) F
theorem cutW_alloc {X Y W : World} {F : List T} {ok : Bool} {a : Option Addr} {k lo : Nat} {t : TypeId} (hXY : Below X.heap.size X Y) (b : Below Y.heap.size Y W) (r : Terms true lo W.heap.size W (.slice a F.length k) F) (h : X.heap.size ≤ lo) :
    CutW X F ok (.pointer (some ⟨W.heap.size, 0, none⟩)) (.bool ok) (W.alloc (.cells #[.slice a F.length k] t)) := by
  have b' := hXY.trans (b.mono hXY.size)
  have a1 : Below W.heap.size W (W.alloc (.cells #[.slice a F.length k] t)) := Below.alloc (Below.refl _ _) (Nat.le_refl _) _
  exact ⟨_, _, _, rfl, rfl, b'.size, by simp, Below.alloc b' b'.size _, (r.keep a1 (Nat.le_refl _)).mono h (by simp)⟩
theorem cutW_set {X Y W : World} {F : List T} {ok : Bool} {a : Option Addr} {k lo R : Nat} (hXY : Below X.heap.size X Y) (b : Below Y.heap.size Y W) (r : Terms true lo W.heap.size W (.slice a F.length k) F) (hR : R < lo) (h : X.heap.size ≤ R) (hs : (W.cell? ⟨R, 0, none⟩).isSome = true) :
    CutW X F ok (.pointer (some ⟨R, 0, none⟩)) (.bool ok) (W.setCell ⟨R, 0, none⟩ (.slice a F.length k)) := by
  have b' := hXY.trans (b.mono hXY.size)
  exact ⟨_, _, _, rfl, rfl, h, World.cell?_setCell_same' _ _ _ hs, Below.setCell b' h _, r.stored hR (by omega)⟩

end Go.Proofs.Yteekpdlkdpkegaa.L
