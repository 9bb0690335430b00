/- B11: Bld BHint BCon BProd -/
import Derived.Test.YtcenijdaacbgpaaB5
import Derived.Test.YtcenijdaacbgpaaB7
import Derived.Test.YtcenijdaacbgpaaB4
import Derived.Laws.LoneSync
set_option linter.unusedVariables false
set_option linter.unusedSimpArgs false
/- The builder: what it holds, and what lies outside of it. -/
namespace Go.Proofs.Ytcenijdaacbgpaa.L
open Go.RowKit Go.Proofs.Ytcenijdaacbgpaa.S
set_option linter.unusedVariables false
set_option linter.unusedSimpArgs false

/-- From Q at w to Q' at w': only Q has been written, and Q' has grown by new blocks alone. -/
structure Ext (Q Q' : Nat → Prop) (w w' : World) : Prop where
  only : OnlyF Q w w'
  grow : ∀ k, Q' k → Q k ∨ w.heap.size ≤ k
theorem Ext.refl (Q : Nat → Prop) (w : World) : Ext Q Q w w := ⟨OnlyF.refl _ _, fun _ h => .inl h⟩
theorem Ext.trans {Q Q' Q'' : Nat → Prop} {a b c : World} (h : Ext Q Q' a b) (k : Ext Q' Q'' b c) : Ext Q Q'' a c :=
  ⟨h.only.trans2 k.only h.grow, fun i hi => by rcases k.grow i hi with q | q; exact h.grow i q; have := h.only.size; exact .inr (by omega)⟩
theorem Ext.of_below {Q : Nat → Prop} {w w' : World} (h : Below w.heap.size w w') : Ext Q Q w w' := ⟨.of_below h, fun _ q => .inl q⟩
theorem Ext.size {Q Q' : Nat → Prop} {w w' : World} (h : Ext Q Q' w w') : w.heap.size ≤ w'.heap.size := h.only.size
theorem Ext.cell {Q Q' : Nat → Prop} {w w' : World} (h : Ext Q Q' w w') {b : Nat} (hb : b < w.heap.size) (hn : ¬ Q b) (j : Nat) : w'.cell? ⟨b, j, none⟩ = w.cell? ⟨b, j, none⟩ := h.only.cell hb hn j
theorem Ext.frozen {Q Q' : Nat → Prop} {w w' : World} (h : Ext Q Q' w w') {b : Nat} (hb : b < w.heap.size) (hn : ¬ Q b) (j : Nat) : w'.frozen? ⟨b, j, none⟩ = w.frozen? ⟨b, j, none⟩ := h.only.frozen hb hn j
theorem Ext.not {Q Q' : Nat → Prop} {w w' : World} (h : Ext Q Q' w w') {b : Nat} (hb : b < w.heap.size) (hn : ¬ Q b) : ¬ Q' b := fun q => by rcases h.grow b q with r | r; exact hn r; omega

/-- Terms outside of Q; and such that may be written, from base on. -/
def OutL (o : Bool) (Q : Nat → Prop) (w : World) (v : Value) (ts : List T) : Prop := TermsF o (fun k => k < w.heap.size ∧ ¬ Q k) w v ts
def NewL (base : Nat) (Q : Nat → Prop) (w : World) (v : Value) (ts : List T) : Prop := TermsF true (fun k => base ≤ k ∧ k < w.heap.size ∧ ¬ Q k) w v ts
theorem OutL.ext {o : Bool} {Q Q' : Nat → Prop} {w w' : World} {v : Value} {ts : List T} (t : OutL o Q w v ts) (e : Ext Q Q' w w') : OutL o Q' w' v ts :=
  (t.agree (e.only.same fun k h => h)).mono fun k h => ⟨Nat.lt_of_lt_of_le h.1 e.size, e.not h.1 h.2⟩
theorem NewL.ext {base : Nat} {Q Q' : Nat → Prop} {w w' : World} {v : Value} {ts : List T} (t : NewL base Q w v ts) (e : Ext Q Q' w w') : NewL base Q' w' v ts :=
  (t.agree (e.only.same fun k h => h.2)).mono fun k h => ⟨h.1, Nat.lt_of_lt_of_le h.2.1 e.size, e.not h.2.1 h.2.2⟩
theorem NewL.out {base : Nat} {Q : Nat → Prop} {w : World} {v : Value} {ts : List T} (t : NewL base Q w v ts) : OutL true Q w v ts := t.mono fun k h => h.2
theorem OutL.read {o : Bool} {Q : Nat → Prop} {w : World} {v : Value} {ts : List T} (t : OutL o Q w v ts) : Terms false 0 w.heap.size w v ts := TermsF.read t
theorem OutL.shape {o : Bool} {Q : Nat → Prop} {w : World} {v : Value} {ts : List T} (t : OutL o Q w v ts) : ∃ a cap, v = .slice a ts.length cap ∧ ts.length ≤ cap ∧ cap ≤ 9223372036854775807 := TermsF.shape t
theorem NewL.low {base base' : Nat} {Q : Nat → Prop} {w : World} {v : Value} {ts : List T} (t : NewL base Q w v ts) (h : base' ≤ base) : NewL base' Q w v ts := TermsF.mono t fun k q => ⟨by omega, q.2⟩
theorem NewL.shape {base : Nat} {Q : Nat → Prop} {w : World} {v : Value} {ts : List T} (t : NewL base Q w v ts) : ∃ a cap, v = .slice a ts.length cap ∧ ts.length ≤ cap ∧ cap ≤ 9223372036854775807 := TermsF.shape t
theorem NewL.read {base : Nat} {Q : Nat → Prop} {w : World} {v : Value} {ts : List T} (t : NewL base Q w v ts) : Terms false 0 w.heap.size w v ts := TermsF.read t
theorem OutL.nil (o : Bool) (Q : Nat → Prop) (w : World) : OutL o Q w (.slice none 0 0) [] := TermsF.nil _ _ _
/-- What a call has made is outside of what was there. -/
theorem NewL.made {base : Nat} {Q : Nat → Prop} {w w' : World} {v : Value} {ts : List T} (t : Terms true w.heap.size w'.heap.size w' v ts) (hb : base ≤ w.heap.size) (hQ : ∀ k, Q k → k < w.heap.size) : NewL base Q w' v ts :=
  t.toF fun k h1 h2 => ⟨by omega, h2, fun q => by have := hQ k q; omega⟩
theorem OutL.arg {o : Bool} {l h base : Nat} {Q : Nat → Prop} {w : World} {v : Value} {ts : List T} (t : Terms o l h w v ts) (hh : h ≤ base) (hb : base ≤ w.heap.size) (hQ : ∀ k, Q k → base ≤ k) : OutL o Q w v ts :=
  t.toF fun k h1 h2 => ⟨by omega, fun q => by have := hQ k q; omega⟩

/-- What the given system's slices are. -/
structure Gv where
  ao : Option Addr
  ko : Nat
  ah : Option Addr
  kh : Nat
  ac : Option Addr
  kc : Nat
/-- The builder lies in block g; all that it owns lies in Q, from base on. -/
def Bld (base g : Nat) (gv : Gv) (s : SysC) (b : Bd) (Q : Nat → Prop) (w : World) : Prop :=
  base ≤ g ∧ Q g ∧ (∀ k, Q k → base ≤ k ∧ k < w.heap.size) ∧ Box4 w g (.int .i64 s.ins) (.slice gv.ao s.outs.length gv.ko) (.slice gv.ah s.hints.length gv.kh) (.slice gv.ac s.cons.length gv.kc) ∧ (∀ j, w.frozen? ⟨g, j, none⟩ = false) ∧ b.hs.length + b.cs.length ≤ b.n ∧
    ∃ vH vC, w.cell? ⟨g, 4, none⟩ = some vH ∧ w.cell? ⟨g, 5, none⟩ = some vC ∧ w.cell? ⟨g, 6, none⟩ = some (.int .i64 (b.n : Int)) ∧
      ∃ R1 F1 R2 F2 : Nat → Prop, GrowF FShape.hint 96 true base R1 F1 w vH b.hs ∧ GrowF FShape.con 72 true base R2 F2 w vC b.cs ∧
        (∀ k, R1 k ∨ F1 k ∨ R2 k ∨ F2 k → Q k ∧ k ≠ g) ∧ (∀ k, R1 k → ¬ F1 k ∧ ¬ R2 k ∧ ¬ F2 k) ∧ (∀ k, F1 k → ¬ R2 k ∧ ¬ F2 k) ∧ (∀ k, R2 k → ¬ F2 k)
section
variable {base g : Nat} {gv : Gv} {s : SysC} {b : Bd} {Q : Nat → Prop} {w w' : World}
theorem Bld.lim (h : Bld base g gv s b Q w) : ∀ k, Q k → k < w.heap.size := fun k q => (h.2.2.1 k q).2
theorem Bld.low (h : Bld base g gv s b Q w) : ∀ k, Q k → base ≤ k := fun k q => (h.2.2.1 k q).1
theorem Bld.glt (h : Bld base g gv s b Q w) : g < w.heap.size := h.lim g h.2.1
theorem Bld.same (h : Bld base g gv s b Q w) (a : SameF Q w w') (hz : w.heap.size ≤ w'.heap.size) : Bld base g gv s b Q w' := by
  obtain ⟨h1, h2, h3, h4, h5, h6, vH, vC, c4, c5, c6, R1, F1, R2, F2, g1, g2, q1, q2, q3, q4⟩ := h
  refine ⟨h1, h2, fun k q => ⟨(h3 k q).1, Nat.lt_of_lt_of_le (h3 k q).2 hz⟩, h4.same (a g h2), fun j => by rw [World.frozen?_of_block (a := ⟨g, j, none⟩) (a g h2)]; exact h5 j, h6, vH, vC, ?_, ?_, ?_, R1, F1, R2, F2, g1.agree (a.sub fun k h => (q1 k (by rcases h with h | h; exact .inl h; exact .inr (.inl h))).1), g2.agree (a.sub fun k h => (q1 k (by rcases h with h | h; exact .inr (.inr (.inl h)); exact .inr (.inr (.inr h)))).1), q1, q2, q3, q4⟩
  · rw [World.cell?_of_block (a := ⟨g, 4, none⟩) (a g h2)]; exact c4
  · rw [World.cell?_of_block (a := ⟨g, 5, none⟩) (a g h2)]; exact c5
  · rw [World.cell?_of_block (a := ⟨g, 6, none⟩) (a g h2)]; exact c6
theorem Bld.below (h : Bld base g gv s b Q w) (f : Below w.heap.size w w') : Bld base g gv s b Q w' := h.same (SameF.of_below f h.lim) f.size
theorem setCell_same {F : Nat → Prop} {p : Addr} {u : Value} (h : ¬ F p.block) : SameF F w (w.setCell p u) := fun k hk => Below.heap_setCell _ _ _ _ (fun e => h (e ▸ hk))
/-- One more has been counted. -/
theorem Bld.counted (h : Bld base g gv s b Q w) : Bld base g gv s ⟨b.hs, b.cs, b.n + 1⟩ Q (w.setCell ⟨g, 6, none⟩ (.int .i64 ((b.n : Int) + 1))) := by
  obtain ⟨h1, h2, h3, h4, h5, h6, vH, vC, c4, c5, c6, R1, F1, R2, F2, g1, g2, q1, q2, q3, q4⟩ := h
  have n1 : ∀ k, (R1 k ∨ F1 k ∨ R2 k ∨ F2 k) → k ≠ g := fun k h => (q1 k h).2
  refine ⟨h1, h2, by simpa [World.setCell] using h3, ?_, fun j => by rw [World.frozen?_setCell]; exact h5 j, by simp only; omega, vH, vC, ?_, ?_, ?_, R1, F1, R2, F2, g1.agree (setCell_same fun h => ?_), g2.agree (setCell_same fun h => ?_), q1, q2, q3, q4⟩
  · exact ⟨(World.cell?_setCell_other _ _ _ _ (by simp)).trans h4.1, (World.cell?_setCell_other _ _ _ _ (by simp)).trans h4.2.1, (World.cell?_setCell_other _ _ _ _ (by simp)).trans h4.2.2.1, (World.cell?_setCell_other _ _ _ _ (by simp)).trans h4.2.2.2⟩
  · rw [World.cell?_setCell_other _ _ _ _ (by simp)]; exact c4
  · rw [World.cell?_setCell_other _ _ _ _ (by simp)]; exact c5
  · rw [World.cell?_setCell_same _ _ _ c6]; simp
  · rcases h with h | h
    · exact n1 g (.inl h) rfl
    · exact n1 g (.inr (.inl h)) rfl
  · rcases h with h | h
    · exact n1 g (.inr (.inr (.inl h))) rfl
    · exact n1 g (.inr (.inr (.inr h))) rfl
/-- A hint has been appended: from W on copies came (to w1), then the row grew (to w2), and was laid into its cell. -/
theorem Bld.hinted {W w1 w2 : World} {v' : Value} {x : HintC} {R1 F1 R2 F2 G' : Nat → Prop} {vC : Value} (h : Bld base g gv s b Q W) (c5 : W.cell? ⟨g, 5, none⟩ = some vC) (f1 : Below W.heap.size W w1) (on : OnlyF R1 w1 w2)
    (g1 : GrowF FShape.hint 96 true base (fun k => R1 k ∨ Nw w1 w2 k) (fun k => F1 k ∨ G' k) w2 v' (b.hs ++ [x])) (g2 : GrowF FShape.con 72 true base R2 F2 W vC b.cs)
    (q1 : ∀ k, R1 k ∨ F1 k ∨ R2 k ∨ F2 k → Q k ∧ k ≠ g) (q2 : ∀ k, R1 k → ¬ F1 k ∧ ¬ R2 k ∧ ¬ F2 k) (q3 : ∀ k, F1 k → ¬ R2 k ∧ ¬ F2 k) (q4 : ∀ k, R2 k → ¬ F2 k) (hG : ∀ k, G' k → W.heap.size ≤ k ∧ k < w1.heap.size) (hn : b.hs.length + b.cs.length + 1 ≤ b.n) :
    Bld base g gv s ⟨b.hs ++ [x], b.cs, b.n⟩ (fun k => Q k ∨ (W.heap.size ≤ k ∧ k < w2.heap.size)) (w2.setCell ⟨g, 4, none⟩ v') ∧ Ext Q (fun k => Q k ∨ (W.heap.size ≤ k ∧ k < w2.heap.size)) W (w2.setCell ⟨g, 4, none⟩ v') := by
  obtain ⟨h1, h2, h3, h4, h5, h6, vH', vC', c4, c5', c6, -⟩ := h
  have z1 := f1.size
  have z2 := on.size
  have bW := h3 g h2
  have nR : ¬ R1 g := fun q => (q1 g (.inl q)).2 rfl
  have s2 : w2.heap[g]? = W.heap[g]? := by rw [on.block g (by omega) nR]; exact f1.block g (by omega)
  have cg : ∀ j, w2.cell? ⟨g, j, none⟩ = W.cell? ⟨g, j, none⟩ := fun j => World.cell?_of_block (a := ⟨g, j, none⟩) s2
  have fg : ∀ j, w2.frozen? ⟨g, j, none⟩ = W.frozen? ⟨g, j, none⟩ := fun j => World.frozen?_of_block (a := ⟨g, j, none⟩) s2
  have g2' : GrowF FShape.con 72 true base R2 F2 (w2.setCell ⟨g, 4, none⟩ v') vC b.cs := by
    refine g2.agree fun k hk => ?_
    have hkq := q1 k (by rcases hk with r | r; exact .inr (.inr (.inl r)); exact .inr (.inr (.inr r)))
    have hlt := (h3 k hkq.1).2
    rw [Below.heap_setCell _ _ _ _ (show k ≠ g from hkq.2), on.block k (by omega) (fun r => by rcases hk with a | a; exact (q2 k r).2.1 a; exact (q2 k r).2.2 a)]
    exact f1.block k hlt
  have lt : ∀ k, Q k → k < W.heap.size := fun k q => (h3 k q).2
  refine ⟨⟨h1, .inl h2, fun k q => ?_, ?_, fun j => by rw [World.frozen?_setCell, fg]; exact h5 j, by simp only [List.length_append, List.length_cons, List.length_nil]; omega, v', vC, ?_, ?_, ?_, _, _, R2, F2, g1.agree (setCell_same fun q => ?_), g2', ?_, ?_, ?_, q4⟩, ?_, fun k q => by rcases q with q | q; exact .inl q; exact .inr q.1⟩
  · rw [World.size_setCell]
    rcases q with q | q
    · have := h3 k q; omega
    · omega
  · refine ⟨?_, ?_, ?_, ?_⟩
    · rw [World.cell?_setCell_other _ _ _ _ (by simp), cg]; exact h4.1
    · rw [World.cell?_setCell_other _ _ _ _ (by simp), cg]; exact h4.2.1
    · rw [World.cell?_setCell_other _ _ _ _ (by simp), cg]; exact h4.2.2.1
    · rw [World.cell?_setCell_other _ _ _ _ (by simp), cg]; exact h4.2.2.2
  · exact World.cell?_setCell_same _ _ _ ((cg 4).trans c4)
  · rw [World.cell?_setCell_other _ _ _ _ (by simp), cg]; exact c5
  · rw [World.cell?_setCell_other _ _ _ _ (by simp), cg]; exact c6
  · rcases q with (q | q) | (q | q)
    · exact nR q
    · have := q.1; simp only at this; omega
    · exact (q1 g (.inr (.inl q))).2 rfl
    · have := hG _ q; simp only at this; omega
  · intro k q
    rcases q with (q | q) | (q | q) | q | q
    · have := q1 k (.inl q); exact ⟨.inl this.1, this.2⟩
    · have := q.1; have := q.2; exact ⟨.inr ⟨by omega, by omega⟩, by omega⟩
    · have := q1 k (.inr (.inl q)); exact ⟨.inl this.1, this.2⟩
    · have := hG k q; exact ⟨.inr ⟨by omega, by omega⟩, by omega⟩
    · have := q1 k (.inr (.inr (.inl q))); exact ⟨.inl this.1, this.2⟩
    · have := q1 k (.inr (.inr (.inr q))); exact ⟨.inl this.1, this.2⟩
  · intro k q
    rcases q with q | q
    · have hk := lt k (q1 k (.inl q)).1
      exact ⟨fun r => by rcases r with r | r; exact (q2 k q).1 r; have := hG k r; omega, (q2 k q).2⟩
    · have hk := q.1
      refine ⟨fun r => ?_, fun r => ?_, fun r => ?_⟩
      · rcases r with r | r
        · have := lt k (q1 k (.inr (.inl r))).1; omega
        · have := hG k r; omega
      · have := lt k (q1 k (.inr (.inr (.inl r)))).1; omega
      · have := lt k (q1 k (.inr (.inr (.inr r)))).1; omega
  · intro k q
    rcases q with q | q
    · exact q3 k q
    · have := hG k q
      exact ⟨fun r => by have := lt k (q1 k (.inr (.inr (.inl r)))).1; omega, fun r => by have := lt k (q1 k (.inr (.inr (.inr r)))).1; omega⟩
  · exact ((OnlyF.of_below f1).trans2 on (fun i hi => .inl (q1 i (.inl hi)).1)).setCell (p := ⟨g, 4, none⟩) h2 _
/-- A constraint has been appended. -/
theorem Bld.coned {W w1 w2 : World} {v' : Value} {x : ConC} {R1 F1 R2 F2 G' : Nat → Prop} {vH : Value} (h : Bld base g gv s b Q W) (c4 : W.cell? ⟨g, 4, none⟩ = some vH) (f1 : Below W.heap.size W w1) (on : OnlyF R2 w1 w2)
    (g1 : GrowF FShape.hint 96 true base R1 F1 W vH b.hs) (g2 : GrowF FShape.con 72 true base (fun k => R2 k ∨ Nw w1 w2 k) (fun k => F2 k ∨ G' k) w2 v' (b.cs ++ [x]))
    (q1 : ∀ k, R1 k ∨ F1 k ∨ R2 k ∨ F2 k → Q k ∧ k ≠ g) (q2 : ∀ k, R1 k → ¬ F1 k ∧ ¬ R2 k ∧ ¬ F2 k) (q3 : ∀ k, F1 k → ¬ R2 k ∧ ¬ F2 k) (q4 : ∀ k, R2 k → ¬ F2 k) (hG : ∀ k, G' k → W.heap.size ≤ k ∧ k < w1.heap.size) (hn : b.hs.length + b.cs.length + 1 ≤ b.n) :
    Bld base g gv s ⟨b.hs, b.cs ++ [x], b.n⟩ (fun k => Q k ∨ (W.heap.size ≤ k ∧ k < w2.heap.size)) (w2.setCell ⟨g, 5, none⟩ v') ∧ Ext Q (fun k => Q k ∨ (W.heap.size ≤ k ∧ k < w2.heap.size)) W (w2.setCell ⟨g, 5, none⟩ v') := by
  obtain ⟨h1, h2, h3, h4, h5, h6, vH', vC', c4', c5, c6, -⟩ := h
  have z1 := f1.size
  have z2 := on.size
  have bW := h3 g h2
  have nR : ¬ R2 g := fun q => (q1 g (.inr (.inr (.inl q)))).2 rfl
  have s2 : w2.heap[g]? = W.heap[g]? := by rw [on.block g (by omega) nR]; exact f1.block g (by omega)
  have cg : ∀ j, w2.cell? ⟨g, j, none⟩ = W.cell? ⟨g, j, none⟩ := fun j => World.cell?_of_block (a := ⟨g, j, none⟩) s2
  have fg : ∀ j, w2.frozen? ⟨g, j, none⟩ = W.frozen? ⟨g, j, none⟩ := fun j => World.frozen?_of_block (a := ⟨g, j, none⟩) s2
  have g1' : GrowF FShape.hint 96 true base R1 F1 (w2.setCell ⟨g, 5, none⟩ v') vH b.hs := by
    refine g1.agree fun k hk => ?_
    have hkq := q1 k (by rcases hk with r | r; exact .inl r; exact .inr (.inl r))
    have hlt := (h3 k hkq.1).2
    rw [Below.heap_setCell _ _ _ _ (show k ≠ g from hkq.2), on.block k (by omega) (fun r => by rcases hk with a | a; exact (q2 k a).2.1 r; exact (q3 k a).1 r)]
    exact f1.block k hlt
  have lt : ∀ k, Q k → k < W.heap.size := fun k q => (h3 k q).2
  refine ⟨⟨h1, .inl h2, fun k q => ?_, ?_, fun j => by rw [World.frozen?_setCell, fg]; exact h5 j, by simp only [List.length_append, List.length_cons, List.length_nil]; omega, vH, v', ?_, ?_, ?_, R1, F1, _, _, g1', g2.agree (setCell_same fun q => ?_), ?_, ?_, ?_, ?_⟩, ?_, fun k q => by rcases q with q | q; exact .inl q; exact .inr q.1⟩
  · rw [World.size_setCell]
    rcases q with q | q
    · have := h3 k q; omega
    · omega
  · refine ⟨?_, ?_, ?_, ?_⟩
    · rw [World.cell?_setCell_other _ _ _ _ (by simp), cg]; exact h4.1
    · rw [World.cell?_setCell_other _ _ _ _ (by simp), cg]; exact h4.2.1
    · rw [World.cell?_setCell_other _ _ _ _ (by simp), cg]; exact h4.2.2.1
    · rw [World.cell?_setCell_other _ _ _ _ (by simp), cg]; exact h4.2.2.2
  · rw [World.cell?_setCell_other _ _ _ _ (by simp), cg]; exact c4
  · exact World.cell?_setCell_same _ _ _ ((cg 5).trans c5)
  · rw [World.cell?_setCell_other _ _ _ _ (by simp), cg]; exact c6
  · rcases q with (q | q) | (q | q)
    · exact nR q
    · have := q.1; simp only at this; omega
    · exact (q1 g (.inr (.inr (.inr q)))).2 rfl
    · have := hG _ q; simp only at this; omega
  · intro k q
    rcases q with q | q | (q | q) | (q | q)
    · have := q1 k (.inl q); exact ⟨.inl this.1, this.2⟩
    · have := q1 k (.inr (.inl q)); exact ⟨.inl this.1, this.2⟩
    · have := q1 k (.inr (.inr (.inl q))); exact ⟨.inl this.1, this.2⟩
    · have := q.1; have := q.2; exact ⟨.inr ⟨by omega, by omega⟩, by omega⟩
    · have := q1 k (.inr (.inr (.inr q))); exact ⟨.inl this.1, this.2⟩
    · have := hG k q; exact ⟨.inr ⟨by omega, by omega⟩, by omega⟩
  · intro k q
    have hk := lt k (q1 k (.inl q)).1
    refine ⟨(q2 k q).1, fun r => ?_, fun r => ?_⟩
    · rcases r with r | r
      · exact (q2 k q).2.1 r
      · have := r.1; omega
    · rcases r with r | r
      · exact (q2 k q).2.2 r
      · have := hG k r; omega
  · intro k q
    have hk := lt k (q1 k (.inr (.inl q))).1
    refine ⟨fun r => ?_, fun r => ?_⟩
    · rcases r with r | r
      · exact (q3 k q).1 r
      · have := r.1; omega
    · rcases r with r | r
      · exact (q3 k q).2 r
      · have := hG k r; omega
  · intro k q r
    rcases q with q | q
    · have hk := lt k (q1 k (.inr (.inr (.inl q)))).1
      rcases r with r | r
      · exact q4 k q r
      · have := hG k r; omega
    · have hk := q.1
      rcases r with r | r
      · have := lt k (q1 k (.inr (.inr (.inr r)))).1; omega
      · have := hG k r; omega
  · exact ((OnlyF.of_below f1).trans2 on (fun i hi => .inl (q1 i (.inr (.inr (.inl hi)))).1)).setCell (p := ⟨g, 5, none⟩) h2 _
end

set_option maxHeartbeats 1600000 in
theorem atomicAdd_any (b off : Nat) (x y : Int) (w : World) (hc : w.cell? ⟨b, off, none⟩ = some (.int .i64 x)) (hz : w.frozen? ⟨b, off, none⟩ = false) (h0 : -9223372036854775808 ≤ x + y) (h1 : x + y ≤ 9223372036854775807) :
    Calls Try.prog 67 #[.pointer (some ⟨b, off, none⟩), .int .i64 y] w fun e w' => e = .returned (.int .i64 (x + y)) ∧ w' = w.setCell ⟨b, off, none⟩ (.int .i64 (x + y)) := by
  have hadd := run_call_add (P := Try.prog) Try.func82 (by kernel_rfl) (by kernel_rfl) (by kernel_rfl) .i64 (by kernel_rfl) (y := y) (s := x + y) hc hz (by simp [go_sem, IntWalk.i64_in (x + y) (by omega)])
  go_enter Try.func67, Try.ntmps67
  go_wp2_with fail
  go_ret
  exact ⟨rfl, rfl⟩
set_option maxHeartbeats 1600000 in
theorem atomicLoad_any (b off : Nat) (x : Int) (w : World) (hc : w.cell? ⟨b, off, none⟩ = some (.int .i64 x)) :
    Calls Try.prog 66 #[.pointer (some ⟨b, off, none⟩)] w fun e w' => e = .returned (.int .i64 x) ∧ w = w' := by
  have hl := run_call_load (P := Try.prog) Try.func81 (by kernel_rfl) (by kernel_rfl) (by kernel_rfl) .i64 (by kernel_rfl) hc
  go_enter Try.func66, Try.ntmps66
  go_wp2_with fail
  go_ret
  exact ⟨rfl, rfl⟩
end Go.Proofs.Ytcenijdaacbgpaa.L

/- The builder's hint: counted, and appended where there is room. -/
namespace Go.Proofs.Ytcenijdaacbgpaa.L
open Go.RowKit Go.Proofs.Ytcenijdaacbgpaa.S
set_option linter.unusedVariables false
set_option linter.unusedSimpArgs false

theorem lin_store {base B lo : Nat} {Q : Nat → Prop} {w : World} {v u : Value} {ts : List T} (t : NewL lo Q w v ts) (hb : base ≤ lo) (hB : B < lo) : NewL base Q (w.setCell ⟨B, 0, none⟩ u) v ts :=
  TermsF.mono (TermsF.agree t (setCell_same (fun h => by have := h.1; simp only at this; omega))) fun k h => ⟨by omega, by simpa [World.setCell] using h.2.1, h.2.2⟩
/-- The result is laid into its box. -/
theorem Bld.boxed {base g : Nat} {gv : Gv} {s : SysC} {b : Bd} {Q : Nat → Prop} {w : World} {B : Nat} {u : Value} (h : Bld base g gv s b Q w) (hB : ¬ Q B) : Bld base g gv s b Q (w.setCell ⟨B, 0, none⟩ u) := h.same (setCell_same hB) (by simp [World.setCell])
theorem ext_boxed {Q : Nat → Prop} {w0 w : World} {Q0 : Nat → Prop} {B : Nat} {u : Value} (h : Ext Q0 Q w0 w) (hB : w0.heap.size ≤ B) : Ext Q0 Q w0 (w.setCell ⟨B, 0, none⟩ u) :=
  ⟨⟨h.only.os, h.only.tape, h.only.output, by simpa [World.setCell] using h.only.size, fun k hk hn => by rw [Below.heap_setCell _ _ _ _ (show k ≠ B by omega)]; exact h.only.block k hk hn⟩, h.grow⟩

/-- What a method of the builder with a result leaves; and one without. -/
def RetV (base g : Nat) (gv : Gv) (s : SysC) (b : Bd) (ts : List T) (Q : Nat → Prop) (w : World) (e : Ending) (w' : World) : Prop := ∃ u Q', e = .returned (.agg #[u]) ∧ Bld base g gv s b Q' w' ∧ NewL w.heap.size Q' w' u ts ∧ Ext Q Q' w w'
theorem RetV.of {base g : Nat} {gv : Gv} {s : SysC} {b b' : Bd} {ts ts' : List T} {Q Q' : Nat → Prop} {w w' : World} {u : Value} (eb : b' = b) (et : ts' = ts) (h1 : Bld base g gv s b Q' w') (h2 : NewL w.heap.size Q' w' u ts) (h3 : Ext Q Q' w w') : RetV base g gv s b' ts' Q w (.returned (.agg #[u])) w' := by
  subst eb et; exact ⟨u, Q', rfl, h1, h2, h3⟩
def RetB (base g : Nat) (gv : Gv) (s : SysC) (b : Bd) (Q : Nat → Prop) (w : World) (e : Ending) (w' : World) : Prop := ∃ Q', e = .returned (.tuple #[]) ∧ Bld base g gv s b Q' w' ∧ Ext Q Q' w w'
theorem RetB.of {base g : Nat} {gv : Gv} {s : SysC} {b b' : Bd} {Q Q' : Nat → Prop} {w w' : World} (eb : b' = b) (h1 : Bld base g gv s b Q' w') (h3 : Ext Q Q' w w') : RetB base g gv s b' Q w (.returned (.tuple #[])) w' := by
  subst eb; exact ⟨Q', rfl, h1, h3⟩

set_option maxRecDepth 100000 in
set_option maxHeartbeats 6400000 in
theorem hintB_any (base g : Nat) (gv : Gv) (s : SysC) (b : Bd) (Q : Nat → Prop) (kind k : Int) (ox oy : Bool) (va vb : Value) (x y : List T) (w : World) (B : Bld base g gv s b Q w) (tx : OutL ox Q w va x) (ty : OutL oy Q w vb y)
    (nx : x.length ≤ 1048576) (ny : y.length ≤ 1048576) (i0 : 0 ≤ s.ins) (i1 : s.ins ≤ 100) (nh : s.hints.length ≤ 1048576) (nb : b.n ≤ 1000000) (hk : Fits kind) (hk2 : Fits k) :
    Calls Try.prog 44 #[.pointer (some ⟨g, 0, none⟩), .int .i64 kind, .agg #[va], .agg #[vb], .int .i64 k] w (RetV base g gv s (bHint s b ⟨kind, x, y, k⟩) (bVar s b) Q w) := by
  obtain ⟨a, ka, rfl, la, ba⟩ := tx.shape
  obtain ⟨c, kc, rfl, lc, bc⟩ := ty.shape
  obtain ⟨j2, hj2, hz2, hs2, hb2⟩ := info_parts HintInfo
  have glt := B.glt
  have hbase : base ≤ w.heap.size := by have := B.1; omega
  have LQ := Lib.hid B.lim
  have Hk := Lib.hid hk
  have Hk2 := Lib.hid hk2
  clear hk hk2
  have nhs : b.hs.length + b.cs.length ≤ b.n := B.2.2.2.2.2.1
  go_enter Try.func44, Try.ntmps44
  go_wp2_with fail
  refine name_call fun w1 hw1 => ?_
  have e1 : Below w.heap.size w w1 := by rw [hw1]; (repeat (with_reducible first | exact bR _ _ | assumption | refine bD ?_ | refine bN ?_ _ | refine bA ?_ _ | refine bS ?_ _))
  have z1 : w.heap.size + 3 ≤ w1.heap.size := by rw [hw1]; simp
  have cA1 : w1.cell? ⟨w.heap.size, 0, none⟩ = some (.slice a x.length ka) := by rw [hw1]; first | (simp; done) | go_simp
  have cB1 : w1.cell? ⟨w.heap.size + 1, 0, none⟩ = some (.slice c y.length kc) := by rw [hw1]; first | (simp; done) | go_simp
  have cR1 : w1.cell? ⟨w.heap.size + 1 + 1, 0, none⟩ = some (.slice none 0 0) := by rw [hw1]; first | (simp; done) | go_simp
  have fR1 : w1.frozen? ⟨w.heap.size + 1 + 1, 0, none⟩ = false := by rw [hw1]; first | (simp; done) | go_simp
  clear hw1
  have B1 := B.below e1
  have X1 : Ext Q Q w w1 := .of_below e1
  have hc6 : w1.cell? ⟨g, 6, none⟩ = some (.int .i64 (b.n : Int)) := by obtain ⟨-, -, -, -, -, -, vH, vC, c4, c5, c6, -⟩ := B1; exact c6
  have hf6 : w1.frozen? ⟨g, 6, none⟩ = false := B1.2.2.2.2.1 6
  refine (atomicAdd_any g 6 (b.n : Int) 1 w1 hc6 hf6 (by omega) (by omega)).mono ?_; rintro e w2 ⟨rfl, hw2⟩
  have B2 : Bld base g gv s ⟨b.hs, b.cs, b.n + 1⟩ Q w2 := by rw [hw2]; exact B1.counted
  have X2 : Ext Q Q w1 w2 := by rw [hw2]; exact ⟨(OnlyF.refl _ _).setCell (p := ⟨g, 6, none⟩) B1.2.1 _, fun _ h => .inl h⟩
  have z2 : w1.heap.size ≤ w2.heap.size := X2.size
  have nq : ∀ i, w.heap.size ≤ i → ¬ Q i := fun i hi q => by have := LQ.out i q; omega
  have NQ := Lib.hid nq
  clear nq
  have cA2 := (X2.cell (b := w.heap.size) (by omega) (NQ.out _ (Nat.le_refl _)) 0).trans cA1
  have cB2 := (X2.cell (b := w.heap.size + 1) (by omega) (NQ.out _ (by omega)) 0).trans cB1
  have cR2 := (X2.cell (b := w.heap.size + 1 + 1) (by omega) (NQ.out _ (by omega)) 0).trans cR1
  have fR2 := (X2.frozen (b := w.heap.size + 1 + 1) (by omega) (NQ.out _ (by omega)) 0).trans fR1
  have X02 := X1.trans X2
  clear hw2 cA1 cB1 cR1 fR1 hc6 hf6 B1 X1 X2 e1
  obtain ⟨vH, vC, c4, c5, c6, R1, F1, R2, F2, gH, gC, q1, q2, q3, q4⟩ := B2.2.2.2.2.2.2
  obtain ⟨H, kH, rfl, lH, bH⟩ := gH.shape
  have c0 := B2.2.2.2.1.1
  have c1 := B2.2.2.2.1.2.1
  have c2 := B2.2.2.2.1.2.2.1
  have c3 := B2.2.2.2.1.2.2.2
  have lw : w.heap.size < w2.heap.size := by omega
  have lg : g < w2.heap.size := by omega
  have dz : Below w2.heap.size w2 w2 := Below.refl _ _
  have zd : w2.heap.size ≤ w2.heap.size := Nat.le_refl _
  have d0 := cell_keep dz c0
  have d1 := cell_keep dz c1
  have d2 := cell_keep dz c2
  have d3 := cell_keep dz c3
  have d4 := cell_keep dz c4
  have KK : Hid (∀ w', Below w2.heap.size w2 w' → w'.cell? ⟨g, 0, none⟩ = some (.int .i64 s.ins) ∧ w'.cell? ⟨g, 1, none⟩ = some (.slice gv.ao s.outs.length gv.ko) ∧ w'.cell? ⟨g, 2, none⟩ = some (.slice gv.ah s.hints.length gv.kh) ∧ w'.cell? ⟨g, 3, none⟩ = some (.slice gv.ac s.cons.length gv.kc) ∧ w'.cell? ⟨g, 4, none⟩ = some (.slice H b.hs.length kH) ∧ Below w2.heap.size w2 w') :=
    Lib.hid fun w' h => ⟨cell_keep h d0, cell_keep h d1, cell_keep h d2, cell_keep h d3, cell_keep h d4, h⟩
  have v0 : -9223372036854775808 ≤ 1 + s.ins + (s.hints.length : Int) + (b.hs.length : Int) := by omega
  have v1 : 1 + s.ins + (s.hints.length : Int) + (b.hs.length : Int) ≤ 9223372036854775807 := by omega
  go_wp2_with fail
  go_cut [11, 12] (fun s11 s12 wx => CutW w2 (varOf (1 + s.ins + (s.hints.length : Int) + (b.hs.length : Int))) (varOk (1 + s.ins + (s.hints.length : Int) + (b.hs.length : Int))) s11 s12 wx)
  case first =>
    have wadd : IntKind.i64.wrap (1 + s.ins + (s.hints.length : Int) + (b.hs.length : Int)) = 1 + s.ins + (s.hints.length : Int) + (b.hs.length : Int) := IntWalk.i64_in _ ⟨v0, v1⟩
    go_region_held3 (fun w' => w'.cell? ⟨g, 0, none⟩ = some (.int .i64 s.ins) ∧ w'.cell? ⟨g, 1, none⟩ = some (.slice gv.ao s.outs.length gv.ko) ∧ w'.cell? ⟨g, 2, none⟩ = some (.slice gv.ah s.hints.length gv.kh) ∧ w'.cell? ⟨g, 3, none⟩ = some (.slice gv.ac s.cons.length gv.kc) ∧ w'.cell? ⟨g, 4, none⟩ = some (.slice H b.hs.length kH) ∧ Below w2.heap.size w2 w') (exact KK.out _ (by (repeat (with_reducible first | exact bR _ _ | assumption | refine bD ?_ | refine bN ?_ _ | refine bA ?_ _ | refine bS ?_ _))))
      (first
        | (go_at_call 42; (with_reducible refine (vars_any s gv.ao gv.ko gv.ah gv.kh gv.ac gv.kc _ i0 i1 nh).mono ?_); rintro e y1 ⟨rfl, j1⟩; have G1 : Below w2.heap.size w2 y1 := Below.trans (by (repeat (with_reducible first | exact bR _ _ | assumption | refine bD ?_ | refine bN ?_ _ | refine bA ?_ _ | refine bS ?_ _))) (j1.mono (Below.size (B := w2.heap.size) (by (repeat (with_reducible first | exact bR _ _ | assumption | refine bD ?_ | refine bN ?_ _ | refine bA ?_ _ | refine bS ?_ _))))); have Y1 := G1.size; have ⟨hc1, hf1⟩ := bcell j1; have S1 := j1.size; (try simp at S1); (try have S1' : w2.heap.size < y1.heap.size := by omega))
        | (go_at_call 68; (with_reducible refine (varOf_impl _ _ v0 v1).mono ?_); rintro e y2 ⟨u, rfl, j2, r2⟩; obtain ⟨au, ku, rfl, lu, bu⟩ := r2.shape; have G2 : Below w2.heap.size w2 y2 := Below.trans (by (repeat (with_reducible first | exact bR _ _ | assumption | refine bD ?_ | refine bN ?_ _ | refine bA ?_ _ | refine bS ?_ _))) (j2.mono (Below.size (B := w2.heap.size) (by (repeat (with_reducible first | exact bR _ _ | assumption | refine bD ?_ | refine bN ?_ _ | refine bA ?_ _ | refine bS ?_ _))))); have Y2 := G2.size; have ⟨hc2, hf2⟩ := bcell j2; have S2 := j2.size; (try simp at S2)))
    all_goals go_wp2_with fail
    all_goals go_meet
    all_goals (first | exact cutW_alloc dz G2 r2 (Below.size (B := w2.heap.size) (by (repeat (with_reducible first | exact bR _ _ | assumption | refine bD ?_ | refine bN ?_ _ | refine bA ?_ _ | refine bS ?_ _)))) | exact cutW_set dz G2 r2 (by first | omega | (simp; done) | (simp; omega)) (by first | omega | (simp; done) | (simp; omega)) (by simp (disch := first | omega | (simp; done) | (simp; omega)) [*]))
  case rest =>
    obtain ⟨vb', aW, kW, rfl, rfl, hg, cW, b0, tW⟩ := hcut
    have zc := b0.size
    have Bc := B2.below b0
    have Xc := X02.trans (Ext.of_below b0)
    have cA := cell_keep b0 cA2
    have cB := cell_keep b0 cB2
    have cR := cell_keep b0 cR2
    have fR := (b0.frozen (p := ⟨w.heap.size + 1 + 1, 0, none⟩) (show w.heap.size + 1 + 1 < w2.heap.size by omega)).trans fR2
    have lvb : vb' < wc.heap.size := World.block_lt_of_cell? _ _ cW
    have L2 := Lib.hid B2.lim
    have HV : Hid (bVar s b = varOf (1 + s.ins + (s.hints.length : Int) + (b.hs.length : Int))) := Lib.hid rfl
    have tA := (tx.ext Xc).read
    have tB := (ty.ext Xc).read
    clear cA2 cB2 cR2 fR2 c0 c1 c2 c3 c4 c5 c6 d0 d1 d2 d3 d4 dz KK gH gC q1 q2 q3 q4 lH bH X02 B2 tx ty B
    cases hok : varOk (1 + s.ins + (s.hints.length : Int) + (b.hs.length : Int))
    · have HB : Hid (bHint s b ⟨kind, x, y, k⟩ = ⟨b.hs, b.cs, b.n + 1⟩) := Lib.hid (by unfold varOk at hok; rw [decide_eq_false_iff_not] at hok; unfold bHint; rw [if_neg (by unfold varsN; omega)])
      go_wp2_with fail
      have tF := tW.stored (R := w.heap.size + 1 + 1) (x := .slice aW (varOf (1 + s.ins + (s.hints.length : Int) + (b.hs.length : Int))).length kW) (by omega) (Nat.le_refl w2.heap.size)
      skip
      exact bodyPost_ret (v := .agg #[.slice aW (varOf (1 + s.ins + (s.hints.length : Int) + (b.hs.length : Int))).length kW]) (by simp [results, Try.results44, go_sem, cR]) rfl (RetV.of HB.out HV.out (Bc.boxed (NQ.out _ (by omega))) (tF.toF (fun q a1 a2 => ⟨by omega, a2, fun r => by have := L2.out q r; omega⟩)) (ext_boxed Xc (by omega)))
    · have HB : Hid (bHint s b ⟨kind, x, y, k⟩ = ⟨b.hs ++ [⟨kind, x, y, k⟩], b.cs, b.n + 1⟩) := Lib.hid (by have := of_decide_eq_true hok; unfold bHint; rw [if_pos (by unfold varsN; omega)])
      obtain ⟨vH, vC, c4, c5, c6, R1, F1, R2, F2, gH, gC, q1, q2, q3, q4⟩ := Bc.2.2.2.2.2.2
      obtain ⟨H, kH, rfl, lH, bH⟩ := gH.shape
      have Q1 := Lib.hid q1
      have Q2 := Lib.hid q2
      have Q3 := Lib.hid q3
      have Q4 := Lib.hid q4
      have LC := Lib.hid Bc.lim
      have lgc : g < wc.heap.size := Bc.glt
      have nRg : ¬ R1 g := fun r => (q1 g (.inl r)).2 rfl
      have nRa : ¬ R1 w.heap.size := fun r => NQ.out _ (Nat.le_refl _) (q1 _ (.inl r)).1
      have nRb : ¬ R1 (w.heap.size + 1) := fun r => NQ.out _ (by omega) (q1 _ (.inl r)).1
      have ff : wc.frozen? ⟨g, 4, none⟩ = false := Bc.2.2.2.2.1 4
      clear q1 q2 q3 q4
      go_wp2_with fail
      have dz : Below wc.heap.size wc wc.drew := (Below.refl _ _).drew
      have zd : wc.heap.size ≤ wc.drew.heap.size := Nat.le_refl _
      have ze : wc.drew.heap.size ≤ wc.heap.size := Nat.le_refl _
      have K0 : Hid (∀ w', OnlyF R1 wc.drew w' → w'.cell? ⟨g, 4, none⟩ = some (.slice H b.hs.length kH)) := Lib.hid (fun w' h => (h.cell (by omega) nRg _).trans (cell_keep dz c4))
      have K1 : Hid (∀ w', OnlyF R1 wc.drew w' → w'.cell? ⟨w.heap.size, 0, none⟩ = some (.slice a x.length ka)) := Lib.hid (fun w' h => (h.cell (by omega) nRa _).trans (cell_keep dz cA))
      have K2 : Hid (∀ w', OnlyF R1 wc.drew w' → w'.cell? ⟨w.heap.size + 1, 0, none⟩ = some (.slice c y.length kc)) := Lib.hid (fun w' h => (h.cell (by omega) nRb _).trans (cell_keep dz cB))
      have tA0 := tA.keep dz (Nat.le_refl _)
      have tB0 := tB.keep dz (Nat.le_refl _)
      have o0 : OnlyF R1 wc.drew wc.drew := OnlyF.refl _ _
      refine wp_region_tailL (S := fun w' => OnlyF R1 wc.drew w' ∧ w'.cell? ⟨g, 4, none⟩ = some (.slice H b.hs.length kH) ∧ w'.cell? ⟨w.heap.size, 0, none⟩ = some (.slice a x.length ka) ∧ w'.cell? ⟨w.heap.size + 1, 0, none⟩ = some (.slice c y.length kc)) (by kernel_rfl) (by simp) (by kernel_rfl) ⟨o0, K0.out _ o0, K1.out _ o0, K2.out _ o0⟩ (fun hHeld => ?_)
      simp only [List.dropLast_cons_cons, List.dropLast_singleton, List.getLast_cons_cons, List.getLast_singleton]
      refine wpAnyH_take (i := 0) rfl (by kernel_rfl) (by kernel_rfl) (by kernel_rfl) (fun _ _ _ h => h) (v := ?_) (Or.inl ⟨by rfl, ?_⟩) (by assumption) ?_
      case refine_2 => (intro w hSw; (try dsimp only at hSw); go_simp; (try with_reducible rfl))
      try simp only [Act.put, List.setIfInBounds_toArray, List.set_cons_zero, List.set_cons_succ, List.getElem_toArray, List.getElem_cons_succ, List.getElem_cons_zero]
      refine wpAnyH_take (i := 1) rfl (by kernel_rfl) (by kernel_rfl) (by kernel_rfl) (fun _ _ _ h => h) (v := ?_) (Or.inl ⟨by rfl, ?_⟩) (by assumption) ?_
      case refine_2 => (intro w hSw; (try dsimp only at hSw); go_simp; (try with_reducible rfl))
      try simp only [Act.put, List.setIfInBounds_toArray, List.set_cons_zero, List.set_cons_succ, List.getElem_toArray, List.getElem_cons_succ, List.getElem_cons_zero]
      refine wpAnyH_take (i := 2) rfl (by kernel_rfl) (by kernel_rfl) (by kernel_rfl) (fun _ _ _ h => h) (v := ?_) (Or.inl ⟨by rfl, ?_⟩) (by assumption) ?_
      case refine_2 => (intro w hSw; (try dsimp only at hSw); go_simp; (try with_reducible rfl))
      try simp only [Act.put, List.setIfInBounds_toArray, List.set_cons_zero, List.set_cons_succ, List.getElem_toArray, List.getElem_cons_succ, List.getElem_cons_zero]
      refine wpAnyH_take (i := 3) rfl (by kernel_rfl) (by kernel_rfl) (by kernel_rfl) (fun _ _ _ h => h) (v := ?_) (Or.inl ⟨by rfl, ?_⟩) (by assumption) ?_
      case refine_2 => (intro w hSw; (try dsimp only at hSw); go_simp; (try with_reducible rfl))
      try simp only [Act.put, List.setIfInBounds_toArray, List.set_cons_zero, List.set_cons_succ, List.getElem_toArray, List.getElem_cons_succ, List.getElem_cons_zero]
      refine wpAnyH_take (i := 4) rfl (by kernel_rfl) (by kernel_rfl) (by kernel_rfl) (fun _ _ _ h => h) (v := ?_) (Or.inl ⟨by rfl, ?_⟩) (by assumption) ?_
      case refine_2 => (intro w hSw; (try dsimp only at hSw); go_simp; (try with_reducible rfl))
      try simp only [Act.put, List.setIfInBounds_toArray, List.set_cons_zero, List.set_cons_succ, List.getElem_toArray, List.getElem_cons_succ, List.getElem_cons_zero]
      refine wpAnyH_take (i := 5) rfl (by kernel_rfl) (by kernel_rfl) (by kernel_rfl) (fun _ _ _ h => h) (v := ?_) (Or.inl ⟨by rfl, ?_⟩) (by assumption) ?_
      case refine_2 => (intro w hSw; (try dsimp only at hSw); go_simp; (try with_reducible rfl))
      try simp only [Act.put, List.setIfInBounds_toArray, List.set_cons_zero, List.set_cons_succ, List.getElem_toArray, List.getElem_cons_succ, List.getElem_cons_zero]
      refine wpAnyH_take (i := 6) rfl (by kernel_rfl) (by kernel_rfl) (by kernel_rfl) (fun _ _ _ h => h) (v := ?_) (Or.inl ⟨by rfl, ?_⟩) (by assumption) ?_
      case refine_2 => (intro w hSw; (try dsimp only at hSw); go_simp; (try with_reducible rfl))
      try simp only [Act.put, List.setIfInBounds_toArray, List.set_cons_zero, List.set_cons_succ, List.getElem_toArray, List.getElem_cons_succ, List.getElem_cons_zero]
      refine wpAnyH_take (i := 8) rfl (by kernel_rfl) (by kernel_rfl) (by kernel_rfl) (fun _ _ _ h => h) (v := ?_) (Or.inl ⟨by rfl, ?_⟩) (by assumption) ?_
      case refine_2 => (intro w hSw; (try dsimp only at hSw); go_simp; (try with_reducible rfl))
      try simp only [Act.put, List.setIfInBounds_toArray, List.set_cons_zero, List.set_cons_succ, List.getElem_toArray, List.getElem_cons_succ, List.getElem_cons_zero]
      refine wpAnyH_take (i := 10) rfl (by kernel_rfl) (by kernel_rfl) (by kernel_rfl) (fun _ _ _ h => h) (v := ?_) (Or.inl ⟨by rfl, ?_⟩) (by assumption) ?_
      case refine_2 => (intro w hSw; (try dsimp only at hSw); go_simp; (try with_reducible rfl))
      try simp only [Act.put, List.setIfInBounds_toArray, List.set_cons_zero, List.set_cons_succ, List.getElem_toArray, List.getElem_cons_succ, List.getElem_cons_zero]
      refine wpAnyH_ready (rs := [7]) (by kernel_rfl) (by simp) ?_
      refine AllReadyH.cons rfl (fun K hK => ?_) AllReadyH.nil
      go_simp
      go_at_call 69
      refine (clone_any false 0 wc.heap.size (.slice a x.length ka) x wc.drew tA0 (by omega) (by omega)).mono ?_
      rintro e vA ⟨uA, rfl, fA, TA⟩
      obtain ⟨xa, ca, rfl, LA, MA⟩ := TA.shape
      have ZA := fA.size
      have oA := o0.trans (OnlyF.of_below fA)
      refine hK.out _ _ ⟨oA, K0.out _ oA, K1.out _ oA, K2.out _ oA⟩ (fun hHeld => ?_)
      clear hK K
      try simp only [Act.put, List.setIfInBounds_toArray, List.set_cons_zero, List.set_cons_succ, List.getElem_toArray, List.getElem_cons_succ, List.getElem_cons_zero]
      refine wpAnyH_ready (rs := [9]) (by kernel_rfl) (by simp) ?_
      refine AllReadyH.cons rfl (fun K hK => ?_) AllReadyH.nil
      go_simp
      go_at_call 69
      refine (clone_any false 0 wc.heap.size (.slice c y.length kc) y vA (tB0.keep fA (by omega)) (by omega) (by omega)).mono ?_
      rintro e vB ⟨uB, rfl, fB, TB⟩
      obtain ⟨xb, cb, rfl, LB, MB⟩ := TB.shape
      have ZB := fB.size
      have oB := oA.trans (OnlyF.of_below fB)
      refine hK.out _ _ ⟨oB, K0.out _ oB, K1.out _ oB, K2.out _ oB⟩ (fun hHeld => ?_)
      clear hK K
      try simp only [Act.put, List.setIfInBounds_toArray, List.set_cons_zero, List.set_cons_succ, List.getElem_toArray, List.getElem_cons_succ, List.getElem_cons_zero]
      refine wpAnyH_take (i := 11) rfl (by kernel_rfl) (by kernel_rfl) (by kernel_rfl) (fun _ _ _ h => h) (v := ?_) (Or.inl ⟨by rfl, ?_⟩) (by assumption) ?_
      case refine_2 => (intro w hSw; (try dsimp only at hSw); go_simp; (try with_reducible rfl))
      try simp only [Act.put, List.setIfInBounds_toArray, List.set_cons_zero, List.set_cons_succ, List.getElem_toArray, List.getElem_cons_succ, List.getElem_cons_zero]
      refine wpAnyH_ready (rs := [12]) (by kernel_rfl) (by simp) ?_
      refine AllReadyH.cons rfl (fun K hK => ?_) AllReadyH.nil
      go_simp
      have oS := oB.alloc (.cells #[.int .i64 kind, .slice xa x.length ca, .slice xb y.length cb, .int .i64 k] 96)
      refine hK.out _ _ ⟨oS, K0.out _ oS, K1.out _ oS, K2.out _ oS⟩ (fun hHeld => ?_)
      clear hK K
      try simp only [Act.put, List.setIfInBounds_toArray, List.set_cons_zero, List.set_cons_succ, List.getElem_toArray, List.getElem_cons_succ, List.getElem_cons_zero]
      have fS : Below wc.heap.size wc (vB.alloc (.cells #[.int .i64 kind, .slice xa x.length ca, .slice xb y.length cb, .int .i64 k] 96)) := Below.alloc (dz.trans ((fA.mono (by omega)).trans (fB.mono (by omega)))) (by omega) _
      have RA := TA.keep (B := vA.heap.size) (balloc (w := vB) (by omega) ((Below.refl _ _).trans (fB.mono (by omega))) (.cells #[.int .i64 kind, .slice xa x.length ca, .slice xb y.length cb, .int .i64 k] 96)) (Nat.le_refl _)
      have RB := TB.keep (B := vB.heap.size) (balloc (w := vB) (by omega) (Below.refl _ _) (.cells #[.int .i64 kind, .slice xa x.length ca, .slice xb y.length cb, .int .i64 k] 96)) (Nat.le_refl _)
      have lim1 : ∀ q, R1 q ∨ F1 q → q < wc.heap.size := fun q r => LC.out q (Q1.out q (by rcases r with r | r; exact .inl r; exact .inr (.inl r))).1
      have LIM := Lib.hid lim1
      clear lim1
      have GA := gH.agree (SameF.of_below fS LIM.out)
      refine wpAnyH_ready (rs := [13]) (by kernel_rfl) (by simp) ?_
      refine AllReadyH.cons rfl (fun K hK => ?_) AllReadyH.nil
      refine step_append_growF (vB.alloc (.cells #[.int .i64 kind, .slice xa x.length ca, .slice xb y.length cb, .int .i64 k] 96)) rfl _ _ 29 rfl 96 j2 (.agg #[.int .i64 0, .slice none 0 0, .slice none 0 0, .int .i64 0]) 64 Try.underlying29 hj2 hz2 hs2 hb2 rfl (by decide) (.slice H b.hs.length kH) b.hs rfl GA [.int .i64 kind, .slice xa x.length ca, .slice xb y.length cb, .int .i64 k] ⟨kind, x, y, k⟩ (fun q => wc.heap.size ≤ q ∧ q < vB.heap.size) ⟨_, _, _, _, _, _, rfl, Hk.out, Hk2.out, fun q i j => ⟨by omega, by omega⟩, fun q i j => ⟨by omega, by omega⟩, fun _ => by omega, RA, RB⟩ vB.heap.size (0, 0) rfl (heap_alloc_new vB _) (fun q r => (Q2.out q r).1) (fun q r => by have := LIM.out q r; simp; omega) (fun q r => ⟨by simp; omega, fun r1 => by have := LIM.out q (.inl r1); omega⟩) (fun _ q r r1 => by have := LIM.out q (.inr r); omega) (by omega) (by omega) (by simp; omega) ?_
      rintro g' cap' y1 ⟨⟨Gn, on1⟩, lc1⟩
      have oy := oS.trans on1
      refine hK.out _ _ ⟨oy, K0.out _ oy, K1.out _ oy, K2.out _ oy⟩ (fun hHeld => ?_)
      clear hK K
      try simp only [Act.put, List.setIfInBounds_toArray, List.set_cons_zero, List.set_cons_succ, List.getElem_toArray, List.getElem_cons_succ, List.getElem_cons_zero]
      refine wpAnyH_take (i := 14) rfl (by kernel_rfl) (by kernel_rfl) (by kernel_rfl) (fun _ _ _ h => h) (v := ?_) (Or.inl ⟨by rfl, ?_⟩) (by assumption) ?_
      case refine_2 => (intro w hSw; (try dsimp only at hSw); go_simp; (try with_reducible rfl))
      try simp only [Act.put, List.setIfInBounds_toArray, List.set_cons_zero, List.set_cons_succ, List.getElem_toArray, List.getElem_cons_succ, List.getElem_cons_zero]
      refine wpAnyH_take (i := 15) rfl (by kernel_rfl) (by kernel_rfl) (by kernel_rfl) (fun _ _ _ h => h) (v := ?_) (Or.inl ⟨by rfl, ?_⟩) (by assumption) ?_
      case refine_2 => (intro w hSw; (try dsimp only at hSw); go_simp; (try with_reducible rfl))
      try simp only [Act.put, List.setIfInBounds_toArray, List.set_cons_zero, List.set_cons_succ, List.getElem_toArray, List.getElem_cons_succ, List.getElem_cons_zero]
      refine wpAnyH_done (by kernel_rfl) ?_ _
      show Oper.wp _ _ _ _ _ _
      have cy := K0.out _ oy
      have fy : y1.frozen? ⟨g, 4, none⟩ = false := (oy.frozen (by omega) nRg 4).trans ff
      have X := Bc.hinted c5 fS on1 Gn gC Q1.out Q2.out Q3.out Q4.out (fun q r => ⟨r.1, by have := r.2; simp; omega⟩) (by simp only; omega)
      have EX := X.2
      have BX := X.1
      have nv : ¬ Q vb' := fun r => by have := L2.out _ r; omega
      have cv := (EX.cell lvb nv 0).trans cW
      have cr := (EX.cell (b := w.heap.size + 1 + 1) (by omega) (NQ.out _ (by omega)) 0).trans cR
      have fr := (EX.frozen (b := w.heap.size + 1 + 1) (by omega) (NQ.out _ (by omega)) 0).trans fR
      have zy := EX.size
      have lb1 : vb' < (y1.setCell ⟨g, 4, none⟩ (.slice (some ⟨g', 0, none⟩) (b.hs.length + 1) cap')).heap.size := by omega
      have NV := (NewL.made (base := w2.heap.size) tW (Nat.le_refl _) L2.out).ext EX
      have XF := Xc.trans EX
      have nB := EX.not (b := w.heap.size + 1 + 1) (by omega) (NQ.out _ (by omega))
      clear Bc Gn gH gC oS oA oB o0 fA fB TA TB RA RB fS GA on1 oy hHeld tA tB tA0 tB0 X K0 K1 K2 c4 c5 c6 cA cB cR fR ff
      go_simp
      go_wp2_with fail
      skip
      exact bodyPost_ret (v := .agg #[.slice aW (varOf (1 + s.ins + (s.hints.length : Int) + (b.hs.length : Int))).length kW]) (by simp [results, Try.results44, go_sem, cr]) rfl (RetV.of HB.out HV.out (BX.boxed nB) (lin_store (lo := w2.heap.size) NV (by omega) (by omega)) (ext_boxed XF (by omega)))
end Go.Proofs.Ytcenijdaacbgpaa.L

/- The builder's constraint: counted, and appended where there is room. -/
namespace Go.Proofs.Ytcenijdaacbgpaa.L
open Go.RowKit Go.Proofs.Ytcenijdaacbgpaa.S
set_option linter.unusedVariables false
set_option linter.unusedSimpArgs false

set_option maxRecDepth 100000 in
set_option maxHeartbeats 6400000 in
theorem conB_any (base g : Nat) (gv : Gv) (s : SysC) (b : Bd) (Q : Nat → Prop) (ox oy oz : Bool) (va vb vc : Value) (x y z : List T) (w : World) (B : Bld base g gv s b Q w) (tx : OutL ox Q w va x) (ty : OutL oy Q w vb y) (tz : OutL oz Q w vc z)
    (nx : x.length ≤ 1048576) (ny : y.length ≤ 1048576) (nz : z.length ≤ 1048576) (nc : s.cons.length ≤ 1048576) (nb : b.n ≤ 1000000) :
    Calls Try.prog 70 #[.pointer (some ⟨g, 0, none⟩), .agg #[va], .agg #[vb], .agg #[vc]] w (RetB base g gv s (bCon s b ⟨x, y, z⟩) Q w) := by
  obtain ⟨a, ka, rfl, la, ba⟩ := tx.shape
  obtain ⟨c, kc, rfl, lc, bc⟩ := ty.shape
  obtain ⟨d, kd, rfl, ld, bd⟩ := tz.shape
  obtain ⟨j2, hj2, hz2, hs2, hb2⟩ := info_parts ConInfo
  have glt := B.glt
  have hbase : base ≤ w.heap.size := by have := B.1; omega
  have LQ := Lib.hid B.lim
  have nhs : b.hs.length + b.cs.length ≤ b.n := B.2.2.2.2.2.1
  go_enter Try.func70, Try.ntmps70
  go_wp2_with fail
  refine name_call fun w1 hw1 => ?_
  have e1 : Below w.heap.size w w1 := by rw [hw1]; (repeat (with_reducible first | exact bR _ _ | assumption | refine bD ?_ | refine bN ?_ _ | refine bA ?_ _ | refine bS ?_ _))
  have z1 : w.heap.size + 3 ≤ w1.heap.size := by rw [hw1]; simp
  have cA1 : w1.cell? ⟨w.heap.size, 0, none⟩ = some (.slice a x.length ka) := by rw [hw1]; first | (simp; done) | go_simp
  have cB1 : w1.cell? ⟨w.heap.size + 1, 0, none⟩ = some (.slice c y.length kc) := by rw [hw1]; first | (simp; done) | go_simp
  have cC1 : w1.cell? ⟨w.heap.size + 1 + 1, 0, none⟩ = some (.slice d z.length kd) := by rw [hw1]; first | (simp; done) | go_simp
  clear hw1
  have B1 := B.below e1
  have X1 : Ext Q Q w w1 := .of_below e1
  have hc6 : w1.cell? ⟨g, 6, none⟩ = some (.int .i64 (b.n : Int)) := by obtain ⟨-, -, -, -, -, -, vH, vC, c4, c5, c6, -⟩ := B1; exact c6
  have hf6 : w1.frozen? ⟨g, 6, none⟩ = false := B1.2.2.2.2.1 6
  refine (atomicAdd_any g 6 (b.n : Int) 1 w1 hc6 hf6 (by omega) (by omega)).mono ?_; rintro e wc ⟨rfl, hw2⟩
  have Bc : Bld base g gv s ⟨b.hs, b.cs, b.n + 1⟩ Q wc := by rw [hw2]; exact B1.counted
  have X2 : Ext Q Q w1 wc := by rw [hw2]; exact ⟨(OnlyF.refl _ _).setCell (p := ⟨g, 6, none⟩) B1.2.1 _, fun _ h => .inl h⟩
  have z2 : w1.heap.size ≤ wc.heap.size := X2.size
  have nq : ∀ i, w.heap.size ≤ i → ¬ Q i := fun i hi q => by have := LQ.out i q; omega
  have NQ := Lib.hid nq
  clear nq
  have cA := (X2.cell (b := w.heap.size) (by omega) (NQ.out _ (Nat.le_refl _)) 0).trans cA1
  have cB := (X2.cell (b := w.heap.size + 1) (by omega) (NQ.out _ (by omega)) 0).trans cB1
  have cC := (X2.cell (b := w.heap.size + 1 + 1) (by omega) (NQ.out _ (by omega)) 0).trans cC1
  have Xc := X1.trans X2
  clear hw2 cA1 cB1 cC1 hc6 hf6 B1 X1 X2 e1
  have tA := (tx.ext Xc).read
  have tB := (ty.ext Xc).read
  have tC := (tz.ext Xc).read
  clear tx ty tz B
  obtain ⟨vH, vC, c4, c5, c6, R1, F1, R2, F2, gH, gC, q1, q2, q3, q4⟩ := Bc.2.2.2.2.2.2
  obtain ⟨H, kH, rfl, lH, bH⟩ := gC.shape
  have Q1 := Lib.hid q1
  have Q2 := Lib.hid q2
  have Q3 := Lib.hid q3
  have Q4 := Lib.hid q4
  have LCC := Lib.hid Bc.lim
  have lgc : g < wc.heap.size := Bc.glt
  have nRg : ¬ R2 g := fun r => (q1 g (.inr (.inr (.inl r)))).2 rfl
  have nRa : ¬ R2 w.heap.size := fun r => NQ.out _ (Nat.le_refl _) (q1 _ (.inr (.inr (.inl r)))).1
  have nRb : ¬ R2 (w.heap.size + 1) := fun r => NQ.out _ (by omega) (q1 _ (.inr (.inr (.inl r)))).1
  have nRc : ¬ R2 (w.heap.size + 1 + 1) := fun r => NQ.out _ (by omega) (q1 _ (.inr (.inr (.inl r)))).1
  have ff : wc.frozen? ⟨g, 5, none⟩ = false := Bc.2.2.2.2.1 5
  have c3 := Bc.2.2.2.1.2.2.2
  have dz : Below wc.heap.size wc wc.drew := (Below.refl _ _).drew
  have d3 := cell_keep dz c3
  have d5 := cell_keep dz c5
  have v1 : 0 ≤ (s.cons.length : Int) + (b.cs.length : Int) ∧ (s.cons.length : Int) + (b.cs.length : Int) ≤ 9223372036854775807 := by omega
  have wadd : IntKind.i64.wrap ((s.cons.length : Int) + (b.cs.length : Int)) = (s.cons.length : Int) + (b.cs.length : Int) := IntWalk.i64_in _ (by omega)
  clear q1 q2 q3 q4
  have KK : Hid (wc.drew.cell? ⟨g, 3, none⟩ = some (.slice gv.ac s.cons.length gv.kc) ∧ wc.drew.cell? ⟨g, 5, none⟩ = some (.slice H b.cs.length kH)) := Lib.hid ⟨d3, d5⟩
  by_cases hok : s.cons.length + b.cs.length < 4000
  case' neg =>
    have hb : decide ((s.cons.length : Int) + (b.cs.length : Int) < 4000) = false := decide_eq_false (by omega)
    have HB : Hid (bCon s b ⟨x, y, z⟩ = ⟨b.hs, b.cs, b.n + 1⟩) := Lib.hid (by unfold bCon; rw [if_neg hok])
    clear hok
    go_wp2_with fail
    go_region_held3 (fun w' => w'.cell? ⟨g, 3, none⟩ = some (.slice gv.ac s.cons.length gv.kc) ∧ w'.cell? ⟨g, 5, none⟩ = some (.slice H b.cs.length kH)) (exact KK.out) (fail)
    clear wadd hb d3 d5 KK
    go_wp2_with fail
    first | go_end0 | (simp only [Exit.inBlock, Exit.then]; refine bodyPost_ret (results_none rfl _ _ _) rfl ?_) | refine bodyPost_ret (results_none rfl _ _ _) rfl ?_
    exact RetB.of HB.out (Bc.same (fun _ _ => rfl) (Nat.le_refl _)) ⟨⟨Xc.only.os, Xc.only.tape, Xc.only.output, Xc.only.size, Xc.only.block⟩, Xc.grow⟩
  have hb : decide ((s.cons.length : Int) + (b.cs.length : Int) < 4000) = true := decide_eq_true (by omega)
  have HB : Hid (bCon s b ⟨x, y, z⟩ = ⟨b.hs, b.cs ++ [⟨x, y, z⟩], b.n + 1⟩) := Lib.hid (by unfold bCon; rw [if_pos hok])
  clear hok
  go_wp2_with fail
  go_region_held3 (fun w' => w'.cell? ⟨g, 3, none⟩ = some (.slice gv.ac s.cons.length gv.kc) ∧ w'.cell? ⟨g, 5, none⟩ = some (.slice H b.cs.length kH)) (exact KK.out) (fail)
  clear wadd hb d3 d5 KK
  generalize hwd : wc.drew = wd at *
  have fd : Below wc.heap.size wc wd := dz
  have zd : wc.heap.size ≤ wd.heap.size := fd.size
  have ze : wd.heap.size ≤ wc.heap.size := by rw [← hwd]; exact Nat.le_refl _
  clear hwd dz
  go_wp2_with fail
  have dy : Below wc.heap.size wc wd.drew := fd.drew
  have zf : wd.heap.size ≤ wd.drew.heap.size := Nat.le_refl _
  have zg : wd.drew.heap.size ≤ wd.heap.size := Nat.le_refl _
  have K0 : Hid (∀ w', OnlyF R2 wd.drew w' → w'.cell? ⟨g, 5, none⟩ = some (.slice H b.cs.length kH)) := Lib.hid (fun w' h => (h.cell (by omega) nRg _).trans (cell_keep dy c5))
  have K1 : Hid (∀ w', OnlyF R2 wd.drew w' → w'.cell? ⟨w.heap.size, 0, none⟩ = some (.slice a x.length ka)) := Lib.hid (fun w' h => (h.cell (by omega) nRa _).trans (cell_keep dy cA))
  have K2 : Hid (∀ w', OnlyF R2 wd.drew w' → w'.cell? ⟨w.heap.size + 1, 0, none⟩ = some (.slice c y.length kc)) := Lib.hid (fun w' h => (h.cell (by omega) nRb _).trans (cell_keep dy cB))
  have K3 : Hid (∀ w', OnlyF R2 wd.drew w' → w'.cell? ⟨w.heap.size + 1 + 1, 0, none⟩ = some (.slice d z.length kd)) := Lib.hid (fun w' h => (h.cell (by omega) nRc _).trans (cell_keep dy cC))
  have tA0 := tA.keep dy (Nat.le_refl _)
  have tB0 := tB.keep dy (Nat.le_refl _)
  have tC0 := tC.keep dy (Nat.le_refl _)
  have o0 : OnlyF R2 wd.drew wd.drew := OnlyF.refl _ _
  refine wp_region_tailL (S := fun w' => OnlyF R2 wd.drew w' ∧ w'.cell? ⟨g, 5, none⟩ = some (.slice H b.cs.length kH) ∧ w'.cell? ⟨w.heap.size, 0, none⟩ = some (.slice a x.length ka) ∧ w'.cell? ⟨w.heap.size + 1, 0, none⟩ = some (.slice c y.length kc) ∧ w'.cell? ⟨w.heap.size + 1 + 1, 0, none⟩ = some (.slice d z.length kd)) (by kernel_rfl) (by simp) (by kernel_rfl) ⟨o0, K0.out _ o0, K1.out _ o0, K2.out _ o0, K3.out _ o0⟩ (fun hHeld => ?_)
  simp only [List.dropLast_cons_cons, List.dropLast_singleton, List.getLast_cons_cons, List.getLast_singleton]
  refine wpAnyH_take (i := 0) rfl (by kernel_rfl) (by kernel_rfl) (by kernel_rfl) (fun _ _ _ h => h) (v := ?_) (Or.inl ⟨by rfl, ?_⟩) (by assumption) ?_
  case refine_2 => (intro w hSw; (try dsimp only at hSw); go_simp; (try with_reducible rfl))
  try simp only [Act.put, List.setIfInBounds_toArray, List.set_cons_zero, List.set_cons_succ, List.getElem_toArray, List.getElem_cons_succ, List.getElem_cons_zero]
  refine wpAnyH_take (i := 1) rfl (by kernel_rfl) (by kernel_rfl) (by kernel_rfl) (fun _ _ _ h => h) (v := ?_) (Or.inl ⟨by rfl, ?_⟩) (by assumption) ?_
  case refine_2 => (intro w hSw; (try dsimp only at hSw); go_simp; (try with_reducible rfl))
  try simp only [Act.put, List.setIfInBounds_toArray, List.set_cons_zero, List.set_cons_succ, List.getElem_toArray, List.getElem_cons_succ, List.getElem_cons_zero]
  refine wpAnyH_take (i := 2) rfl (by kernel_rfl) (by kernel_rfl) (by kernel_rfl) (fun _ _ _ h => h) (v := ?_) (Or.inl ⟨by rfl, ?_⟩) (by assumption) ?_
  case refine_2 => (intro w hSw; (try dsimp only at hSw); go_simp; (try with_reducible rfl))
  try simp only [Act.put, List.setIfInBounds_toArray, List.set_cons_zero, List.set_cons_succ, List.getElem_toArray, List.getElem_cons_succ, List.getElem_cons_zero]
  refine wpAnyH_take (i := 3) rfl (by kernel_rfl) (by kernel_rfl) (by kernel_rfl) (fun _ _ _ h => h) (v := ?_) (Or.inl ⟨by rfl, ?_⟩) (by assumption) ?_
  case refine_2 => (intro w hSw; (try dsimp only at hSw); go_simp; (try with_reducible rfl))
  try simp only [Act.put, List.setIfInBounds_toArray, List.set_cons_zero, List.set_cons_succ, List.getElem_toArray, List.getElem_cons_succ, List.getElem_cons_zero]
  refine wpAnyH_take (i := 4) rfl (by kernel_rfl) (by kernel_rfl) (by kernel_rfl) (fun _ _ _ h => h) (v := ?_) (Or.inl ⟨by rfl, ?_⟩) (by assumption) ?_
  case refine_2 => (intro w hSw; (try dsimp only at hSw); go_simp; (try with_reducible rfl))
  try simp only [Act.put, List.setIfInBounds_toArray, List.set_cons_zero, List.set_cons_succ, List.getElem_toArray, List.getElem_cons_succ, List.getElem_cons_zero]
  refine wpAnyH_take (i := 5) rfl (by kernel_rfl) (by kernel_rfl) (by kernel_rfl) (fun _ _ _ h => h) (v := ?_) (Or.inl ⟨by rfl, ?_⟩) (by assumption) ?_
  case refine_2 => (intro w hSw; (try dsimp only at hSw); go_simp; (try with_reducible rfl))
  try simp only [Act.put, List.setIfInBounds_toArray, List.set_cons_zero, List.set_cons_succ, List.getElem_toArray, List.getElem_cons_succ, List.getElem_cons_zero]
  refine wpAnyH_take (i := 7) rfl (by kernel_rfl) (by kernel_rfl) (by kernel_rfl) (fun _ _ _ h => h) (v := ?_) (Or.inl ⟨by rfl, ?_⟩) (by assumption) ?_
  case refine_2 => (intro w hSw; (try dsimp only at hSw); go_simp; (try with_reducible rfl))
  try simp only [Act.put, List.setIfInBounds_toArray, List.set_cons_zero, List.set_cons_succ, List.getElem_toArray, List.getElem_cons_succ, List.getElem_cons_zero]
  refine wpAnyH_take (i := 9) rfl (by kernel_rfl) (by kernel_rfl) (by kernel_rfl) (fun _ _ _ h => h) (v := ?_) (Or.inl ⟨by rfl, ?_⟩) (by assumption) ?_
  case refine_2 => (intro w hSw; (try dsimp only at hSw); go_simp; (try with_reducible rfl))
  try simp only [Act.put, List.setIfInBounds_toArray, List.set_cons_zero, List.set_cons_succ, List.getElem_toArray, List.getElem_cons_succ, List.getElem_cons_zero]
  refine wpAnyH_ready (rs := [6]) (by kernel_rfl) (by simp) ?_
  refine AllReadyH.cons rfl (fun K hK => ?_) AllReadyH.nil
  go_simp
  go_at_call 69
  refine (clone_any false 0 wc.heap.size (.slice a x.length ka) x wd.drew tA0 (by omega) (by omega)).mono ?_
  rintro e vA ⟨uA, rfl, fA, TA⟩
  obtain ⟨xa, ca, rfl, LA, MA⟩ := TA.shape
  have ZA := fA.size
  have oA := o0.trans (OnlyF.of_below fA)
  refine hK.out _ _ ⟨oA, K0.out _ oA, K1.out _ oA, K2.out _ oA, K3.out _ oA⟩ (fun hHeld => ?_)
  clear hK K
  try simp only [Act.put, List.setIfInBounds_toArray, List.set_cons_zero, List.set_cons_succ, List.getElem_toArray, List.getElem_cons_succ, List.getElem_cons_zero]
  refine wpAnyH_ready (rs := [8]) (by kernel_rfl) (by simp) ?_
  refine AllReadyH.cons rfl (fun K hK => ?_) AllReadyH.nil
  go_simp
  go_at_call 69
  refine (clone_any false 0 wc.heap.size (.slice c y.length kc) y vA (tB0.keep fA (by omega)) (by omega) (by omega)).mono ?_
  rintro e vB ⟨uB, rfl, fB, TB⟩
  obtain ⟨xb, cb, rfl, LB, MB⟩ := TB.shape
  have ZB := fB.size
  have oB := oA.trans (OnlyF.of_below fB)
  refine hK.out _ _ ⟨oB, K0.out _ oB, K1.out _ oB, K2.out _ oB, K3.out _ oB⟩ (fun hHeld => ?_)
  clear hK K
  try simp only [Act.put, List.setIfInBounds_toArray, List.set_cons_zero, List.set_cons_succ, List.getElem_toArray, List.getElem_cons_succ, List.getElem_cons_zero]
  refine wpAnyH_ready (rs := [10]) (by kernel_rfl) (by simp) ?_
  refine AllReadyH.cons rfl (fun K hK => ?_) AllReadyH.nil
  go_simp
  go_at_call 69
  refine (clone_any false 0 wc.heap.size (.slice d z.length kd) z vB ((tC0.keep fA (by omega)).keep fB (by omega)) (by omega) (by omega)).mono ?_
  rintro e vC ⟨uC, rfl, fC, TC⟩
  obtain ⟨xc, cc, rfl, LC, MC⟩ := TC.shape
  have ZC := fC.size
  have oC := oB.trans (OnlyF.of_below fC)
  refine hK.out _ _ ⟨oC, K0.out _ oC, K1.out _ oC, K2.out _ oC, K3.out _ oC⟩ (fun hHeld => ?_)
  clear hK K
  try simp only [Act.put, List.setIfInBounds_toArray, List.set_cons_zero, List.set_cons_succ, List.getElem_toArray, List.getElem_cons_succ, List.getElem_cons_zero]
  refine wpAnyH_take (i := 11) rfl (by kernel_rfl) (by kernel_rfl) (by kernel_rfl) (fun _ _ _ h => h) (v := ?_) (Or.inl ⟨by rfl, ?_⟩) (by assumption) ?_
  case refine_2 => (intro w hSw; (try dsimp only at hSw); go_simp; (try with_reducible rfl))
  try simp only [Act.put, List.setIfInBounds_toArray, List.set_cons_zero, List.set_cons_succ, List.getElem_toArray, List.getElem_cons_succ, List.getElem_cons_zero]
  refine wpAnyH_ready (rs := [12]) (by kernel_rfl) (by simp) ?_
  refine AllReadyH.cons rfl (fun K hK => ?_) AllReadyH.nil
  go_simp
  have oS := oC.alloc (.cells #[.slice xa x.length ca, .slice xb y.length cb, .slice xc z.length cc] 72)
  refine hK.out _ _ ⟨oS, K0.out _ oS, K1.out _ oS, K2.out _ oS, K3.out _ oS⟩ (fun hHeld => ?_)
  clear hK K
  try simp only [Act.put, List.setIfInBounds_toArray, List.set_cons_zero, List.set_cons_succ, List.getElem_toArray, List.getElem_cons_succ, List.getElem_cons_zero]
  have fS : Below wc.heap.size wc (vC.alloc (.cells #[.slice xa x.length ca, .slice xb y.length cb, .slice xc z.length cc] 72)) := Below.alloc (dy.trans ((fA.mono (by omega)).trans ((fB.mono (by omega)).trans (fC.mono (by omega))))) (by omega) _
  have RA := TA.keep (B := vA.heap.size) (balloc (w := vC) (by omega) ((fB.mono (by omega)).trans (fC.mono (by omega))) (.cells #[.slice xa x.length ca, .slice xb y.length cb, .slice xc z.length cc] 72)) (Nat.le_refl _)
  have RB := TB.keep (B := vB.heap.size) (balloc (w := vC) (by omega) (fC.mono (by omega)) (.cells #[.slice xa x.length ca, .slice xb y.length cb, .slice xc z.length cc] 72)) (Nat.le_refl _)
  have RC := TC.keep (B := vC.heap.size) (balloc (w := vC) (by omega) (Below.refl _ _) (.cells #[.slice xa x.length ca, .slice xb y.length cb, .slice xc z.length cc] 72)) (Nat.le_refl _)
  have lim1 : ∀ q, R2 q ∨ F2 q → q < wc.heap.size := fun q r => LCC.out q (Q1.out q (by rcases r with r | r; exact .inr (.inr (.inl r)); exact .inr (.inr (.inr r)))).1
  have LIM := Lib.hid lim1
  clear lim1
  have GA := gC.agree (SameF.of_below fS LIM.out)
  refine wpAnyH_ready (rs := [13]) (by kernel_rfl) (by simp) ?_
  refine AllReadyH.cons rfl (fun K hK => ?_) AllReadyH.nil
  refine step_append_growF (vC.alloc (.cells #[.slice xa x.length ca, .slice xb y.length cb, .slice xc z.length cc] 72)) rfl _ _ 30 rfl 72 j2 (.agg #[.slice none 0 0, .slice none 0 0, .slice none 0 0]) 72 Try.underlying30 hj2 hz2 hs2 hb2 rfl (by decide) (.slice H b.cs.length kH) b.cs rfl GA [.slice xa x.length ca, .slice xb y.length cb, .slice xc z.length cc] ⟨x, y, z⟩ (fun q => wc.heap.size ≤ q ∧ q < vC.heap.size) ⟨_, _, _, _, _, _, _, _, _, rfl, fun q i j => ⟨by omega, by omega⟩, fun q i j => ⟨by omega, by omega⟩, fun q i j => ⟨by omega, by omega⟩, fun _ => ⟨by omega, by omega, by omega⟩, RA, RB, RC⟩ vC.heap.size (0, 0) rfl (heap_alloc_new vC _) (fun q r => Q4.out q r) (fun q r => by have := LIM.out q r; simp; omega) (fun q r => ⟨by simp; omega, fun r1 => by have := LIM.out q (.inl r1); omega⟩) (fun _ q r r1 => by have := LIM.out q (.inr r); omega) (by omega) (by omega) (by simp; omega) ?_
  rintro g' cap' y1 ⟨⟨Gn, on1⟩, lc1⟩
  have oy' := oS.trans on1
  refine hK.out _ _ ⟨oy', K0.out _ oy', K1.out _ oy', K2.out _ oy', K3.out _ oy'⟩ (fun hHeld => ?_)
  clear hK K
  try simp only [Act.put, List.setIfInBounds_toArray, List.set_cons_zero, List.set_cons_succ, List.getElem_toArray, List.getElem_cons_succ, List.getElem_cons_zero]
  refine wpAnyH_take (i := 14) rfl (by kernel_rfl) (by kernel_rfl) (by kernel_rfl) (fun _ _ _ h => h) (v := ?_) (Or.inl ⟨by rfl, ?_⟩) (by assumption) ?_
  case refine_2 => (intro w hSw; (try dsimp only at hSw); go_simp; (try with_reducible rfl))
  try simp only [Act.put, List.setIfInBounds_toArray, List.set_cons_zero, List.set_cons_succ, List.getElem_toArray, List.getElem_cons_succ, List.getElem_cons_zero]
  refine wpAnyH_take (i := 15) rfl (by kernel_rfl) (by kernel_rfl) (by kernel_rfl) (fun _ _ _ h => h) (v := ?_) (Or.inl ⟨by rfl, ?_⟩) (by assumption) ?_
  case refine_2 => (intro w hSw; (try dsimp only at hSw); go_simp; (try with_reducible rfl))
  try simp only [Act.put, List.setIfInBounds_toArray, List.set_cons_zero, List.set_cons_succ, List.getElem_toArray, List.getElem_cons_succ, List.getElem_cons_zero]
  refine wpAnyH_done (by kernel_rfl) ?_ _
  show Oper.wp _ _ _ _ _ _
  have cy := K0.out _ oy'
  have fy : y1.frozen? ⟨g, 5, none⟩ = false := (oy'.frozen (by omega) nRg 5).trans ((dy.frozen (p := ⟨g, 5, none⟩) lgc).trans ff)
  have X := Bc.coned c4 fS on1 gH Gn Q1.out Q2.out Q3.out Q4.out (fun q r => ⟨r.1, by have := r.2; simp; omega⟩) (by simp only; omega)
  have EX := X.2
  have BX := X.1
  have XF := Xc.trans EX
  clear Bc Gn gH gC oS oA oB oC o0 fA fB fC TA TB TC RA RB RC fS GA on1 oy' hHeld tA tB tC tA0 tB0 tC0 X K0 K1 K2 K3 c4 c5 c6 cA cB cC ff EX
  go_simp
  go_wp2_with fail
  first | go_end0 | (simp only [Exit.inBlock, Exit.then]; refine bodyPost_ret (results_none rfl _ _ _) rfl ?_) | refine bodyPost_ret (results_none rfl _ _ _) rfl ?_
  exact RetB.of HB.out BX XF
end Go.Proofs.Ytcenijdaacbgpaa.L

/- The builder's product. -/
namespace Go.Proofs.Ytcenijdaacbgpaa.L
open Go.RowKit Go.Proofs.Ytcenijdaacbgpaa.S
set_option linter.unusedVariables false
end Go.Proofs.Ytcenijdaacbgpaa.L
