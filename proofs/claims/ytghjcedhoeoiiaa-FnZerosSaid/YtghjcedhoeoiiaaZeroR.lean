/- What is known while 'z := pure(pure, effect)' is done in whatever order: the builder's zero. -/
import Derived.Test.YtghjcedhoeoiiaaBOps
import Derived.Test.YtghjcedhoeoiiaaB3
namespace Go.Proofs.Ytghjcedhoeoiiaa.L
open Go.RowKit Go.Proofs.Ytghjcedhoeoiiaa.S
set_option linter.unusedVariables false
set_option linter.unusedSimpArgs false

theorem nope {a : Bool} {p : Prop} (h : a = false) : a = true → p := fun q => by rw [h] at q; cases q
/-- d0: the constant; d4: the product; d5: the difference; d6: the answer's box; d7: the answer is in it. -/
def ZR (base g : Nat) (gv : Gv) (s : SysC) (B1 B2 : Bd) (C W1 F : List T) (Q : Nat → Prop) (X : World) (d0 d4 d5 d6 d7 : Bool) (u11 u15 u16 u6 : Value) (w : World) : Prop :=
  (d5 = true → d4 = true) ∧ (d7 = true → d5 = true ∧ d6 = true) ∧ ∃ Q', Ext Q Q' X w ∧ (d4 = false → Bld base g gv s B1 Q' w) ∧ (d4 = true → Bld base g gv s B2 Q' w) ∧ (∀ k, Q' k → k < w.heap.size) ∧
    (d0 = true → ∃ a k, u11 = .agg #[.slice a C.length k] ∧ OutL true Q' w (.slice a C.length k) C) ∧
    (d4 = true → ∃ a k, u15 = .agg #[.slice a W1.length k] ∧ OutL true Q' w (.slice a W1.length k) W1) ∧
    (d5 = true → ∃ a k l h, u16 = .agg #[.slice a F.length k] ∧ Terms true l h w (.slice a F.length k) F ∧ X.heap.size ≤ l ∧ h ≤ w.heap.size ∧ (∀ q, l ≤ q → q < h → ¬ Q' q) ∧ (d6 = true → ∀ g6, u6 = .pointer (some ⟨g6, 0, none⟩) → g6 < l ∨ h ≤ g6)) ∧
    (d6 = true → ∃ g6 z, u6 = .pointer (some ⟨g6, 0, none⟩) ∧ X.heap.size ≤ g6 ∧ g6 < w.heap.size ∧ ¬ Q' g6 ∧ w.cell? ⟨g6, 0, none⟩ = some z ∧ w.frozen? ⟨g6, 0, none⟩ = false ∧ (d7 = true → u16 = .agg #[z]))
def CutZ (base g : Nat) (gv : Gv) (s : SysC) (B2 : Bd) (F : List T) (Q : Nat → Prop) (X : World) (s6 : Value) (w : World) : Prop :=
  ∃ Q' g6 a k l h, s6 = .pointer (some ⟨g6, 0, none⟩) ∧ Ext Q Q' X w ∧ Bld base g gv s B2 Q' w ∧ X.heap.size ≤ g6 ∧ g6 < w.heap.size ∧ ¬ Q' g6 ∧ w.cell? ⟨g6, 0, none⟩ = some (.slice a F.length k) ∧ Terms true l h w (.slice a F.length k) F ∧ X.heap.size ≤ l ∧ h ≤ w.heap.size ∧ (∀ q, l ≤ q → q < h → ¬ Q' q) ∧ (g6 < l ∨ h ≤ g6)
section
variable {base g : Nat} {gv : Gv} {s : SysC} {B1 B2 : Bd} {C W1 F : List T} {Q : Nat → Prop} {X : World} {d0 d4 d5 d6 d7 : Bool} {u11 u15 u16 u6 : Value} {w w' : World}
theorem ZR.start (B : Bld base g gv s B1 Q X) : ZR base g gv s B1 B2 C W1 F Q X false false false false false u11 u15 u16 u6 X :=
  ⟨fun h => (by cases h), fun h => (by cases h), Q, Ext.refl _ _, fun _ => B, fun h => (by cases h), B.lim, fun h => (by cases h), fun h => (by cases h), fun h => (by cases h), fun h => (by cases h)⟩
theorem ZR.const {a : Option Addr} {k : Nat} (Z : ZR base g gv s B1 B2 C W1 F Q X d0 d4 d5 d6 d7 u11 u15 u16 u6 w) (f : Below w.heap.size w w') (t : Terms true w.heap.size w'.heap.size w' (.slice a C.length k) C) :
    ZR base g gv s B1 B2 C W1 F Q X true d4 d5 d6 d7 (.agg #[.slice a C.length k]) u15 u16 u6 w' := by
  obtain ⟨z1, z2, Q', ex, b1, b2, lim, c0, c4, c5, c6⟩ := Z
  have zs := f.size
  have E : Ext Q' Q' w w' := Ext.of_below f
  refine ⟨z1, z2, Q', ex.trans E, fun h => (b1 h).below f, fun h => (b2 h).below f, fun q hq => Nat.lt_of_lt_of_le (lim q hq) zs, fun _ => ⟨a, k, rfl, (NewL.made t (Nat.le_refl _) lim).out⟩, fun h => ?_, fun h => ?_, fun h => ?_⟩
  · obtain ⟨a', k', e, o⟩ := c4 h; exact ⟨a', k', e, o.ext E⟩
  · obtain ⟨a', k', l, hh, e, t', x1, x2, x3, x4⟩ := c5 h; exact ⟨a', k', l, hh, e, t'.keep f x2, x1, by omega, x3, x4⟩
  · obtain ⟨g6, z, e, x1, x2, x3, x4, x5, x6⟩ := c6 h; exact ⟨g6, z, e, x1, by omega, x3, cell_keep f x4, (f.frozen (p := ⟨g6, 0, none⟩) x2).trans x5, x6⟩
theorem ZR.prod {a : Option Addr} {k : Nat} {Q2 Q' : Nat → Prop} (z1 : d5 = true → d4 = true) (z2 : d7 = true → d5 = true ∧ d6 = true) (ex : Ext Q Q' X w)
    (c0 : d0 = true → ∃ a k, u11 = .agg #[.slice a C.length k] ∧ OutL true Q' w (.slice a C.length k) C)
    (c6 : d6 = true → ∃ g6 z, u6 = .pointer (some ⟨g6, 0, none⟩) ∧ X.heap.size ≤ g6 ∧ g6 < w.heap.size ∧ ¬ Q' g6 ∧ w.cell? ⟨g6, 0, none⟩ = some z ∧ w.frozen? ⟨g6, 0, none⟩ = false ∧ (d7 = true → u16 = .agg #[z]))
    (h4 : d4 = false) (B : Bld base g gv s B2 Q2 w') (n : NewL w.heap.size Q2 w' (.slice a W1.length k) W1) (x : Ext Q' Q2 w w') :
    ZR base g gv s B1 B2 C W1 F Q X d0 true d5 d6 d7 u11 (.agg #[.slice a W1.length k]) u16 u6 w' := by
  have h5 : d5 = false := by cases d5; rfl; rw [z1 rfl] at h4; cases h4
  have zs := x.size
  subst h5
  refine ⟨fun h => (by cases h), fun h => (by have := (z2 h).1; cases this), Q2, ex.trans x, fun h => (by cases h), fun _ => B, B.lim, fun h => ?_, fun _ => ⟨a, k, rfl, n.out⟩, fun h => (by cases h), fun h => ?_⟩
  · obtain ⟨a', k', e, o⟩ := c0 h; exact ⟨a', k', e, o.ext x⟩
  · obtain ⟨g6, z, e, x1, x2, x3, x4, x5, x6⟩ := c6 h
    exact ⟨g6, z, e, x1, by omega, x.not x2 x3, (x.cell x2 x3 0).trans x4, (x.frozen x2 x3 0).trans x5, x6⟩
theorem ZR.diff {a : Option Addr} {k : Nat} (Z : ZR base g gv s B1 B2 C W1 F Q X d0 d4 d5 d6 d7 u11 u15 u16 u6 w) (h4 : d4 = true) (h5 : d5 = false) (f : Below w.heap.size w w') (t : Terms true w.heap.size w'.heap.size w' (.slice a F.length k) F) :
    ZR base g gv s B1 B2 C W1 F Q X d0 d4 true d6 d7 u11 u15 (.agg #[.slice a F.length k]) u6 w' := by
  obtain ⟨z1, z2, Q', ex, b1, b2, lim, c0, c4, c5, c6⟩ := Z
  have h7 : d7 = false := by cases d7; rfl; rw [(z2 rfl).1] at h5; cases h5
  subst h7
  have zs := f.size
  have zx := ex.size
  have E : Ext Q' Q' w w' := Ext.of_below f
  refine ⟨fun _ => h4, fun h => (by cases h), Q', ex.trans E, fun h => (b1 h).below f, fun h => (b2 h).below f, fun q hq => Nat.lt_of_lt_of_le (lim q hq) zs, fun h => ?_, fun h => ?_, fun _ => ⟨a, k, w.heap.size, w'.heap.size, rfl, t, zx, Nat.le_refl _, fun q h1 h2 hq => (by have := lim q hq; omega), fun h g6 e6 => ?_⟩, fun h => ?_⟩
  · obtain ⟨a', k', e, o⟩ := c0 h; exact ⟨a', k', e, o.ext E⟩
  · obtain ⟨a', k', e, o⟩ := c4 h; exact ⟨a', k', e, o.ext E⟩
  · obtain ⟨g6', z, e, x1, x2, -⟩ := c6 h
    rw [e] at e6; simp at e6; omega
  · obtain ⟨g6, z, e, x1, x2, x3, x4, x5, x6⟩ := c6 h; exact ⟨g6, z, e, x1, by omega, x3, cell_keep f x4, (f.frozen (p := ⟨g6, 0, none⟩) x2).trans x5, fun h => (by cases h)⟩
theorem ZR.box {z : Value} {t : TypeId} (Z : ZR base g gv s B1 B2 C W1 F Q X d0 d4 d5 false d7 u11 u15 u16 u6 w) :
    ZR base g gv s B1 B2 C W1 F Q X d0 d4 d5 true d7 u11 u15 u16 (.pointer (some ⟨w.heap.size, 0, none⟩)) (w.alloc (.cells #[z] t)) := by
  obtain ⟨z1, z2, Q', ex, b1, b2, lim, c0, c4, c5, c6⟩ := Z
  have f : Below w.heap.size w (w.alloc (.cells #[z] t)) := (Below.refl _ _).alloc (Nat.le_refl _) _
  have zs := f.size
  have zx := ex.size
  have h7 : d7 = false := by cases d7; rfl; have := (z2 rfl).2; cases this
  subst h7
  have E : Ext Q' Q' w (w.alloc (.cells #[z] t)) := Ext.of_below f
  refine ⟨z1, fun h => (by cases h), Q', ex.trans E, fun h => (b1 h).below f, fun h => (b2 h).below f, fun q hq => Nat.lt_of_lt_of_le (lim q hq) zs, fun h => ?_, fun h => ?_, fun h => ?_, fun _ => ⟨w.heap.size, z, rfl, zx, by simp, fun hq => (by have := lim _ hq; omega), by simp, by simp, fun h => (by cases h)⟩⟩
  · obtain ⟨a', k', e, o⟩ := c0 h; exact ⟨a', k', e, o.ext E⟩
  · obtain ⟨a', k', e, o⟩ := c4 h; exact ⟨a', k', e, o.ext E⟩
  · obtain ⟨a', k', l, hh, e, t', x1, x2, x3, x4⟩ := c5 h
    exact ⟨a', k', l, hh, e, t'.keep f x2, x1, by omega, x3, fun _ g6 e6 => by simp at e6; omega⟩
/-- The box as it is ahead of the store. -/
theorem ZR.pre (Z : ZR base g gv s B1 B2 C W1 F Q X d0 d4 d5 d6 d7 u11 u15 u16 u6 w) (h5 : d5 = true) (h6 : d6 = true) : ∃ g6 z a k, u6 = .pointer (some ⟨g6, 0, none⟩) ∧ u16 = .agg #[.slice a F.length k] ∧ w.cell? ⟨g6, 0, none⟩ = some z ∧ w.frozen? ⟨g6, 0, none⟩ = false ∧ g6 < w.heap.size := by
  obtain ⟨z1, z2, Q', ex, b1, b2, lim, c0, c4, c5, c6⟩ := Z
  obtain ⟨a', k', l, hh, e, t', x1, x2, x3, x4⟩ := c5 h5
  obtain ⟨g6, z, e6, y1, y2, y3, y4, y5, y6⟩ := c6 h6
  exact ⟨g6, z, a', k', e6, e, y4, y5, y2⟩
theorem ZR.store {g6 : Nat} {a : Option Addr} {k : Nat} (Z : ZR base g gv s B1 B2 C W1 F Q X d0 d4 d5 d6 d7 u11 u15 u16 u6 w) (h5 : d5 = true) (h6 : d6 = true) (e6 : u6 = .pointer (some ⟨g6, 0, none⟩)) (e16 : u16 = .agg #[.slice a F.length k]) :
    CutZ base g gv s B2 F Q X u6 (w.setCell ⟨g6, 0, none⟩ (.slice a F.length k)) := by
  obtain ⟨z1, z2, Q', ex, b1, b2, lim, c0, c4, c5, c6⟩ := Z
  obtain ⟨a', k', l, hh, e, t', x1, x2, x3, x4⟩ := c5 h5
  obtain ⟨g6', z, e6', y1, y2, y3, y4, y5, y6⟩ := c6 h6
  rw [e6'] at e6; simp at e6; subst e6
  rw [e] at e16; simp at e16; obtain ⟨rfl, rfl⟩ := e16
  have hd := x4 h6 _ e6'
  refine ⟨Q', g6', a', k', l, hh, e6', ext_boxed ex y1, (b2 (z1 h5)).boxed y3, y1, by simpa [World.setCell] using y2, y3, World.cell?_setCell_same _ _ _ y4, ?_, x1, by simpa [World.setCell] using x2, x3, hd⟩
  exact t'.only (lo := g6') (hi := g6' + 1) (Only.setCell (p := ⟨g6', 0, none⟩) (Only.refl _ _ w) (Nat.le_refl _) (Nat.lt_succ_self _) _) (by omega) x2
end
end Go.Proofs.Ytghjcedhoeoiiaa.L
