/- Small words for regions that draw their order and end in a store into a box of four cells. -/
import Derived.Test.YtoeklalhbkdjnaaB3
import Derived.Test.YtoeklalhbkdjnaaNums2
namespace Go.Proofs.Ytoeklalhbkdjnaa.L
open Go.RowKit Go.Proofs.Ytoeklalhbkdjnaa.S
set_option linter.unusedVariables false
set_option linter.unusedSimpArgs false

theorem vac0 {a : Bool} {p : Prop} (h : a = false) : a = true → p := fun q => by rw [h] at q; cases q
theorem fk {B : Nat} {w w' : World} {b o : Nat} (h : Below B w w') (hf : w.frozen? ⟨b, o, none⟩ = false) (hb : b < B := by omega) : w'.frozen? ⟨b, o, none⟩ = false := by rw [h.frozen (p := ⟨b, o, none⟩) hb]; exact hf
theorem fk' {w w' : World} {b o : Nat} (h : Below w.heap.size w w') (hf : w.frozen? ⟨b, o, none⟩ = false) (hb : b < w.heap.size) : w'.frozen? ⟨b, o, none⟩ = false := by rw [h.frozen (p := ⟨b, o, none⟩) hb]; exact hf
def put4 (w : World) (b : Nat) (u0 u1 u2 u3 : Value) : World := (((w.setCell ⟨b, 0, none⟩ u0).setCell ⟨b, 1, none⟩ u1).setCell ⟨b, 2, none⟩ u2).setCell ⟨b, 3, none⟩ u3
theorem put4_size (w : World) (b : Nat) (u0 u1 u2 u3 : Value) : (put4 w b u0 u1 u2 u3).heap.size = w.heap.size := by simp [put4]
theorem put4_below {B : Nat} {a w : World} {b : Nat} (h : Below B a w) (hb : B ≤ b) (u0 u1 u2 u3 : Value) : Below B a (put4 w b u0 u1 u2 u3) := (((h.setCell (p := ⟨b, 0, none⟩) hb u0).setCell (p := ⟨b, 1, none⟩) hb u1).setCell (p := ⟨b, 2, none⟩) hb u2).setCell (p := ⟨b, 3, none⟩) hb u3
theorem put4_frozen {w : World} {b c j : Nat} (h : w.frozen? ⟨c, j, none⟩ = false) (u0 u1 u2 u3 : Value) : (put4 w b u0 u1 u2 u3).frozen? ⟨c, j, none⟩ = false := by
  unfold put4; rw [World.frozen?_setCell, World.frozen?_setCell, World.frozen?_setCell, World.frozen?_setCell]; exact h
theorem put4_new {w : World} {b : Nat} {x0 x1 x2 x3 u0 u1 u2 u3 : Value} (c0 : w.cell? ⟨b, 0, none⟩ = some x0) (c1 : w.cell? ⟨b, 1, none⟩ = some x1) (c2 : w.cell? ⟨b, 2, none⟩ = some x2) (c3 : w.cell? ⟨b, 3, none⟩ = some x3) :
    (put4 w b u0 u1 u2 u3).cell? ⟨b, 0, none⟩ = some u0 ∧ (put4 w b u0 u1 u2 u3).cell? ⟨b, 1, none⟩ = some u1 ∧ (put4 w b u0 u1 u2 u3).cell? ⟨b, 2, none⟩ = some u2 ∧ (put4 w b u0 u1 u2 u3).cell? ⟨b, 3, none⟩ = some u3 := by
  have s : ∀ (W : World) (j i : Nat) (u : Value), i ≠ j → (W.setCell ⟨b, j, none⟩ u).cell? ⟨b, i, none⟩ = W.cell? ⟨b, i, none⟩ := fun W j i u h => World.cell?_setCell_other _ _ _ _ (by simp <;> omega)
  unfold put4
  refine ⟨?_, ?_, ?_, ?_⟩
  · rw [s _ 3 0 _ (by omega), s _ 2 0 _ (by omega), s _ 1 0 _ (by omega)]
    exact World.cell?_setCell_same _ _ _ c0
  · rw [s _ 3 1 _ (by omega), s _ 2 1 _ (by omega)]
    exact World.cell?_setCell_same _ _ _ ((s _ 0 1 _ (by omega)).trans c1)
  · rw [s _ 3 2 _ (by omega)]
    exact World.cell?_setCell_same _ _ _ ((s _ 1 2 _ (by omega)).trans ((s _ 0 2 _ (by omega)).trans c2))
  · exact World.cell?_setCell_same _ _ _ ((s _ 2 3 _ (by omega)).trans ((s _ 1 3 _ (by omega)).trans ((s _ 0 3 _ (by omega)).trans c3)))
/-- Four cells of a box hold h. -/
def Bx4 (w : World) (b : Nat) (h0 h1 h2 h3 : Int) : Prop := w.cell? ⟨b, 0, none⟩ = some (.int .i64 h0) ∧ w.cell? ⟨b, 1, none⟩ = some (.int .i64 h1) ∧ w.cell? ⟨b, 2, none⟩ = some (.int .i64 h2) ∧ w.cell? ⟨b, 3, none⟩ = some (.int .i64 h3)
def Free4' (w : World) (b : Nat) : Prop := w.frozen? ⟨b, 0, none⟩ = false ∧ w.frozen? ⟨b, 1, none⟩ = false ∧ w.frozen? ⟨b, 2, none⟩ = false ∧ w.frozen? ⟨b, 3, none⟩ = false
theorem Free4'.keep {B b : Nat} {w w' : World} (h : Free4' w b) (be : Below B w w') (hb : b < B) : Free4' w' b := ⟨fk be h.1 hb, fk be h.2.1 hb, fk be h.2.2.1 hb, fk be h.2.2.2 hb⟩
theorem Free4'.put {w : World} {b c : Nat} (h : Free4' w c) (u0 u1 u2 u3 : Value) : Free4' (put4 w b u0 u1 u2 u3) c := ⟨put4_frozen h.1 _ _ _ _, put4_frozen h.2.1 _ _ _ _, put4_frozen h.2.2.1 _ _ _ _, put4_frozen h.2.2.2 _ _ _ _⟩
theorem Bx4.keep {b : Nat} {w w' : World} {h0 h1 h2 h3 : Int} (h : Bx4 w b h0 h1 h2 h3) {B : Nat} (be : Below B w w') (hb : b < B) : Bx4 w' b h0 h1 h2 h3 := ⟨(be.cell hb).trans h.1, (be.cell hb).trans h.2.1, (be.cell hb).trans h.2.2.1, (be.cell hb).trans h.2.2.2⟩
end Go.Proofs.Ytoeklalhbkdjnaa.L
