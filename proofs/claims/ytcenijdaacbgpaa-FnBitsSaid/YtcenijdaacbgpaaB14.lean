/- B14: May Done Mdl -/
import Derived.Test.YtcenijdaacbgpaaB12
import Derived.Test.YtcenijdaacbgpaaB5
import Derived.Test.YtcenijdaacbgpaaB11
set_option linter.unusedVariables false
set_option linter.unusedSimpArgs false
/- The model's look at a system and at combinations (written by tools/gen/may.py). -/
namespace Go.Proofs.Ytcenijdaacbgpaa.L
open Go.RowKit Go.Proofs.Ytcenijdaacbgpaa.S
set_option linter.unusedVariables false
end Go.Proofs.Ytcenijdaacbgpaa.L

/- The model's last step (written by tools/gen/done.py). -/
namespace Go.Proofs.Ytcenijdaacbgpaa.L
open Go.RowKit Go.Proofs.Ytcenijdaacbgpaa.S
set_option linter.unusedVariables false
end Go.Proofs.Ytcenijdaacbgpaa.L

/- The model's system while it grows: the rows and the box lie in Q, the elements outside of it (written by tools/gen/mdl.py). -/
namespace Go.Proofs.Ytcenijdaacbgpaa.L
open Go.RowKit Go.Proofs.Ytcenijdaacbgpaa.S
set_option linter.unusedVariables false
set_option linter.unusedSimpArgs false

theorem hint_unown {F : Nat → Prop} {w : World} {cs : List Value} {x : HintC} (h : FShape.hint.rep true F w cs x) : FShape.hint.rep false F w cs x := by
  obtain ⟨va, vb, l1, h1, l2, h2, e, f0, f3, p1, p2, d, ta, tb⟩ := h
  exact ⟨va, vb, l1, h1, l2, h2, e, f0, f3, p1, p2, fun q => (by cases q), ta.unown, tb.unown⟩
theorem con_unown {F : Nat → Prop} {w : World} {cs : List Value} {x : ConC} (h : FShape.con.rep true F w cs x) : FShape.con.rep false F w cs x := by
  obtain ⟨va, vb, vc, l1, h1, l2, h2, l3, h3, e, p1, p2, p3, d, ta, tb, tc⟩ := h
  exact ⟨va, vb, vc, l1, h1, l2, h2, l3, h3, e, p1, p2, p3, fun q => (by cases q), ta.unown, tb.unown, tc.unown⟩
theorem GrowF.unown {α : Type} {E : FShape α} {e : TypeId} {base : Nat} {R F : Nat → Prop} {w : World} {v : Value} {xs : List α} (hE : ∀ {F w cs x}, E.rep true F w cs x → E.rep false F w cs x) (g : GrowF E e true base R F w v xs) : GrowF E e false base R F w v xs := by
  obtain ⟨css, G, h1, h2, h3, h4, h5, h6⟩ := g
  exact ⟨css, G, h1, h2, h3, h4, fun q => (by cases q), fun j x cs a b => ⟨(h6 j x cs a b).1, hE (h6 j x cs a b).2⟩⟩
def Mdl (base g : Nat) (t : SysC) (Q A : Nat → Prop) (w : World) : Prop :=
  Q g ∧ (∀ k, Q k → k < w.heap.size) ∧ Fits t.ins ∧ Free4 w g ∧ ∃ vo vh vc, Box4 w g (.int .i64 t.ins) vo vh vc ∧ ∃ R1 F1 R2 F2 FO : Nat → Prop, RowF FShape.lin FO w vo t.outs ∧ GrowF FShape.hint 96 false base R1 F1 w vh t.hints ∧ GrowF FShape.con 72 false base R2 F2 w vc t.cons ∧
    (∀ k, R1 k → Q k ∧ k ≠ g) ∧ (∀ k, R2 k → Q k ∧ k ≠ g ∧ ¬ R1 k) ∧ (∀ k, F1 k ∨ F2 k ∨ FO k → A k) ∧ (∀ k, A k → k < w.heap.size ∧ ¬ Q k)
section
variable {base g : Nat} {t : SysC} {Q A : Nat → Prop} {w w' : World}
theorem Mdl.lim (h : Mdl base g t Q A w) : ∀ k, Q k → k < w.heap.size := h.2.1
theorem Mdl.glt (h : Mdl base g t Q A w) : g < w.heap.size := h.2.1 g h.1
theorem Mdl.same (h : Mdl base g t Q A w) (al : ∀ k, Q k ∨ A k → w'.heap[k]? = w.heap[k]?) (hz : w.heap.size ≤ w'.heap.size) : Mdl base g t Q A w' := by
  obtain ⟨h1, h2, h3, h4, vo, vh, vc, h5, R1, F1, R2, F2, FO, rO, g1, g2, q1, q2, q3, q4⟩ := h
  refine ⟨h1, fun k q => Nat.lt_of_lt_of_le (h2 k q) hz, h3, h4.same (al g (.inl h1)), vo, vh, vc, h5.same (al g (.inl h1)), R1, F1, R2, F2, FO, rO.agree (fun k q => al k (.inr (q3 k (.inr (.inr q))))) hz, g1.agree (fun k q => ?_), g2.agree (fun k q => ?_), q1, q2, q3, fun k q => ⟨Nat.lt_of_lt_of_le (q4 k q).1 hz, (q4 k q).2⟩⟩
  · rcases q with q | q
    · exact al k (.inl (q1 k q).1)
    · exact al k (.inr (q3 k (.inl q)))
  · rcases q with q | q
    · exact al k (.inl (q2 k q).1)
    · exact al k (.inr (q3 k (.inr (.inl q))))
theorem Mdl.els (h : Mdl base g t Q A w) : ∀ k, A k → k < w.heap.size ∧ ¬ Q k := by
  obtain ⟨h1, h2, h3, h4, vo, vh, vc, h5, R1, F1, R2, F2, FO, rO, g1, g2, q1, q2, q3, q4⟩ := h
  exact q4
theorem Mdl.boxed {B : Nat} {u : Value} (h : Mdl base g t Q A w) (hq : ¬ Q B) (ha : ¬ A B) : Mdl base g t Q A (w.setCell ⟨B, 0, none⟩ u) :=
  h.same (fun k hk => Below.heap_setCell _ _ _ _ (fun e => by subst e; rcases hk with r | r; exact hq r; exact ha r)) (by simp [World.setCell])
theorem Mdl.below (h : Mdl base g t Q A w) (f : Below w.heap.size w w') : Mdl base g t Q A w' := h.same (fun k hk => f.block k (by rcases hk with r | r; exact h.lim k r; exact (h.els k r).1)) f.size
/-- One more hint has been appended. -/
theorem Mdl.hinted {W w1 w2 : World} {v' vo vh vc : Value} {x : HintC} {R1 F1 R2 F2 FO G' : Nat → Prop} (hg : Q g) (hQ : ∀ k, Q k → k < W.heap.size) (fi : Fits t.ins) (fr : Free4 W g) (bx : Box4 W g (.int .i64 t.ins) vo vh vc) (rO : RowF FShape.lin FO W vo t.outs)
    (go : GrowF FShape.con 72 false base R2 F2 W vc t.cons) (q1 : ∀ k, R1 k → Q k ∧ k ≠ g) (q2 : ∀ k, R2 k → Q k ∧ k ≠ g ∧ ¬ R1 k) (q3' : ∀ k, F1 k ∨ F2 k ∨ FO k → A k) (q4 : ∀ k, A k → k < W.heap.size ∧ ¬ Q k) (f1 : Below W.heap.size W w1) (on : OnlyF R1 w1 w2)
    (gm : GrowF FShape.hint 96 false base (fun k => R1 k ∨ Nw w1 w2 k) (fun k => F1 k ∨ G' k) w2 v' (t.hints ++ [x])) (hG : ∀ k, G' k → k < W.heap.size ∧ ¬ Q k) :
    Mdl base g (sHint t x) (fun k => Q k ∨ Nw w1 w2 k) (fun k => A k ∨ G' k) (w2.setCell ⟨g, 2, none⟩ v') ∧ Ext Q (fun k => Q k ∨ Nw w1 w2 k) W (w2.setCell ⟨g, 2, none⟩ v') := by
  have z1 := f1.size
  have z2 := on.size
  have lg := hQ g hg
  have q3 : ∀ k, F1 k ∨ F2 k ∨ FO k → k < W.heap.size ∧ ¬ Q k := fun k q => q4 k (q3' k q)
  have rm : ∀ k, R1 k → Q k ∧ k ≠ g := fun k r => ⟨(q1 k r).1, (q1 k r).2⟩
  have s2 : ∀ k, k < W.heap.size → ¬ R1 k → w2.heap[k]? = W.heap[k]? := fun k hk nr => by rw [on.block k (by omega) nr]; exact f1.block k hk
  have sg := s2 g lg (fun r => (rm g r).2 rfl)
  have s3 : ∀ k, k < W.heap.size → ¬ R1 k → k ≠ g → (w2.setCell ⟨g, 2, none⟩ v').heap[k]? = W.heap[k]? := fun k hk nr ne => by rw [Below.heap_setCell _ _ _ _ ne]; exact s2 k hk nr
  refine ⟨⟨.inl hg, fun k q => ?_, fi, (fr.same sg).set _ _, vo, v', vc, (bx.same sg).set2 _, _, _, _, _, FO, rO.agree (fun k q => ?_) (by rw [World.size_setCell]; omega), gm.agree (fun k q => ?_), go.agree (fun k q => ?_), ?_, ?_, ?_, ?_⟩, ?_, fun k q => by rcases q with q | q; exact .inl q; exact .inr (by have := q.1; omega)⟩
  · rw [World.size_setCell]
    rcases q with q | q
    · have := hQ k q; omega
    · exact q.2
  · have hk := q3 k (.inr (.inr q)); exact s3 k hk.1 (fun r => hk.2 (rm k r).1) (fun e => hk.2 (e ▸ hg))
  · refine Below.heap_setCell _ _ _ _ (fun e => ?_)
    subst e
    rcases q with (q | q) | (q | q)
    · exact (rm _ q).2 rfl
    · have := q.1; omega
    · exact (q3 _ (.inl q)).2 hg
    · exact (hG _ q).2 hg
  · rcases q with q | q
    · exact s3 k (hQ k (q2 k q).1) (fun r => (q2 k q).2.2 r) (q2 k q).2.1
    · have hk := q3 k (.inr (.inl q)); exact s3 k hk.1 (fun r => hk.2 (rm k r).1) (fun e => hk.2 (e ▸ hg))
  · intro k q
    rcases q with q | q
    · exact ⟨.inl (q1 k q).1, (q1 k q).2⟩
    · exact ⟨.inr q, by have := q.1; omega⟩
  · intro k q
    refine ⟨.inl (q2 k q).1, (q2 k q).2.1, fun r => ?_⟩
    rcases r with r | r
    · exact (q2 k q).2.2 r
    · have := hQ k (q2 k q).1; have := r.1; omega
  · intro k q
    rcases q with (q | q) | q | q
    · exact .inl (q3' k (.inl q))
    · exact .inr q
    · exact .inl (q3' k (.inr (.inl q)))
    · exact .inl (q3' k (.inr (.inr q)))
  · intro k q
    have hk : k < W.heap.size ∧ ¬ Q k := by
      rcases q with q | q
      · exact q4 k q
      · exact hG k q
    exact ⟨by rw [World.size_setCell]; omega, fun r => by
      rcases r with r | r
      · exact hk.2 r
      · have := r.1; omega⟩
  · exact ((OnlyF.of_below f1).trans2 on (fun i hi => .inl (rm i hi).1)).setCell (p := ⟨g, 2, none⟩) hg _
/-- One more con has been appended. -/
theorem Mdl.coned {W w1 w2 : World} {v' vo vh vc : Value} {x : ConC} {R1 F1 R2 F2 FO G' : Nat → Prop} (hg : Q g) (hQ : ∀ k, Q k → k < W.heap.size) (fi : Fits t.ins) (fr : Free4 W g) (bx : Box4 W g (.int .i64 t.ins) vo vh vc) (rO : RowF FShape.lin FO W vo t.outs)
    (go : GrowF FShape.hint 96 false base R1 F1 W vh t.hints) (q1 : ∀ k, R1 k → Q k ∧ k ≠ g) (q2 : ∀ k, R2 k → Q k ∧ k ≠ g ∧ ¬ R1 k) (q3' : ∀ k, F1 k ∨ F2 k ∨ FO k → A k) (q4 : ∀ k, A k → k < W.heap.size ∧ ¬ Q k) (f1 : Below W.heap.size W w1) (on : OnlyF R2 w1 w2)
    (gm : GrowF FShape.con 72 false base (fun k => R2 k ∨ Nw w1 w2 k) (fun k => F2 k ∨ G' k) w2 v' (t.cons ++ [x])) (hG : ∀ k, G' k → k < W.heap.size ∧ ¬ Q k) :
    Mdl base g (sCon t x) (fun k => Q k ∨ Nw w1 w2 k) (fun k => A k ∨ G' k) (w2.setCell ⟨g, 3, none⟩ v') ∧ Ext Q (fun k => Q k ∨ Nw w1 w2 k) W (w2.setCell ⟨g, 3, none⟩ v') := by
  have z1 := f1.size
  have z2 := on.size
  have lg := hQ g hg
  have q3 : ∀ k, F1 k ∨ F2 k ∨ FO k → k < W.heap.size ∧ ¬ Q k := fun k q => q4 k (q3' k q)
  have rm : ∀ k, R2 k → Q k ∧ k ≠ g := fun k r => ⟨(q2 k r).1, (q2 k r).2.1⟩
  have s2 : ∀ k, k < W.heap.size → ¬ R2 k → w2.heap[k]? = W.heap[k]? := fun k hk nr => by rw [on.block k (by omega) nr]; exact f1.block k hk
  have sg := s2 g lg (fun r => (rm g r).2 rfl)
  have s3 : ∀ k, k < W.heap.size → ¬ R2 k → k ≠ g → (w2.setCell ⟨g, 3, none⟩ v').heap[k]? = W.heap[k]? := fun k hk nr ne => by rw [Below.heap_setCell _ _ _ _ ne]; exact s2 k hk nr
  refine ⟨⟨.inl hg, fun k q => ?_, fi, (fr.same sg).set _ _, vo, vh, v', (bx.same sg).set3 _, _, _, _, _, FO, rO.agree (fun k q => ?_) (by rw [World.size_setCell]; omega), go.agree (fun k q => ?_), gm.agree (fun k q => ?_), ?_, ?_, ?_, ?_⟩, ?_, fun k q => by rcases q with q | q; exact .inl q; exact .inr (by have := q.1; omega)⟩
  · rw [World.size_setCell]
    rcases q with q | q
    · have := hQ k q; omega
    · exact q.2
  · have hk := q3 k (.inr (.inr q)); exact s3 k hk.1 (fun r => hk.2 (rm k r).1) (fun e => hk.2 (e ▸ hg))
  · rcases q with q | q
    · exact s3 k (hQ k (q1 k q).1) (fun r => (q2 k r).2.2 q) (q1 k q).2
    · have hk := q3 k (.inl q); exact s3 k hk.1 (fun r => hk.2 (rm k r).1) (fun e => hk.2 (e ▸ hg))
  · refine Below.heap_setCell _ _ _ _ (fun e => ?_)
    subst e
    rcases q with (q | q) | (q | q)
    · exact (rm _ q).2 rfl
    · have := q.1; omega
    · exact (q3 _ (.inr (.inl q))).2 hg
    · exact (hG _ q).2 hg
  · intro k q
    exact ⟨.inl (q1 k q).1, (q1 k q).2⟩
  · intro k q
    rcases q with q | q
    · exact ⟨.inl (q2 k q).1, (q2 k q).2⟩
    · exact ⟨.inr q, by have := q.1; omega, fun r => by have := hQ k (q1 k r).1; have := q.1; omega⟩
  · intro k q
    rcases q with q | (q | q) | q
    · exact .inl (q3' k (.inl q))
    · exact .inl (q3' k (.inr (.inl q)))
    · exact .inr q
    · exact .inl (q3' k (.inr (.inr q)))
  · intro k q
    have hk : k < W.heap.size ∧ ¬ Q k := by
      rcases q with q | q
      · exact q4 k q
      · exact hG k q
    exact ⟨by rw [World.size_setCell]; omega, fun r => by
      rcases r with r | r
      · exact hk.2 r
      · have := r.1; omega⟩
  · exact ((OnlyF.of_below f1).trans2 on (fun i hi => .inl (rm i hi).1)).setCell (p := ⟨g, 3, none⟩) hg _
end
end Go.Proofs.Ytcenijdaacbgpaa.L
