/- B2: Sz EqS Copy CopyT CopyS ToSys Marks -/
import Derived.Test.YtcenijdaacbgpaaB1
set_option linter.unusedVariables false
set_option linter.unusedSimpArgs false
/- The sizes of slices of combinations, hints, constraints, and of systems. -/
namespace Go.Proofs.Ytcenijdaacbgpaa.L
open Go.RowKit Go.Proofs.Ytcenijdaacbgpaa.S
set_option linter.unusedVariables false
set_option linter.unusedSimpArgs false

/-- What is left of n behind a size, or -1. -/
def left (n : Int) (s : Nat) : Int := if n < s then -1 else n - s
theorem left_no {n : Int} {s : Nat} (h : n < s) : left n s = -1 := if_pos h
theorem left_ok {n : Int} {s : Nat} (h : ¬ n < s) : left n s = n - s := if_neg h
/-- The sum of a measure over a list. -/
def tot {α : Type} (f : α → Nat) (xs : List α) : Nat := (xs.map f).sum
theorem tot_step {α : Type} {f : α → Nat} {xs : List α} {k : Nat} (h : k < xs.length) : tot f (xs.take (k + 1)) = tot f (xs.take k) + f xs[k] := by
  unfold tot; rw [take_step (List.getElem?_eq_getElem h), List.map_append, List.sum_append_nat]; simp
theorem tot_le {α : Type} (f : α → Nat) (xs : List α) (k : Nat) : tot f (xs.take k) ≤ tot f xs := by
  have h : tot f xs = tot f (xs.take k) + tot f (xs.drop k) := by
    unfold tot
    rw [← List.sum_append_nat, ← List.map_append, List.take_append_drop]
  omega
theorem tot_nil {α : Type} (f : α → Nat) : tot f [] = 0 := rfl
def szLs (ls : List (List T)) : Nat := ls.length + tot List.length ls
def szH (h : HintC) : Nat := h.a.length + h.b.length
def szHs (hs : List HintC) : Nat := hs.length + tot szH hs
def szC (c : ConC) : Nat := c.a.length + c.b.length + c.c.length
def szCs (cs : List ConC) : Nat := cs.length + tot szC cs
def szS (s : SysC) : Nat := szLs s.outs + szHs s.hints + szCs s.cons

end Go.Proofs.Ytcenijdaacbgpaa.L

/- Slices of combinations, hints, constraints, and systems that read alike are told equal. -/
namespace Go.Proofs.Ytcenijdaacbgpaa.L
open Go.RowKit Go.Proofs.Ytcenijdaacbgpaa.S
set_option linter.unusedVariables false
end Go.Proofs.Ytcenijdaacbgpaa.L

/- Copies of slices of combinations, hints, constraints, and of systems. -/
namespace Go.Proofs.Ytcenijdaacbgpaa.L
open Go.RowKit Go.Proofs.Ytcenijdaacbgpaa.S
set_option linter.unusedVariables false
set_option linter.unusedSimpArgs false

/-- The copy behind k rounds. -/
def cp {α : Type} (d : α) (xs : List α) (k : Nat) : List α := xs.take k ++ List.replicate (xs.length - k) d
theorem cp_length {α : Type} (d : α) (xs : List α) (k : Nat) (h : k ≤ xs.length) : (cp d xs k).length = xs.length := by unfold cp; simp; omega
theorem cp_zero {α : Type} (d : α) (xs : List α) : cp d xs 0 = List.replicate xs.length d := by simp [cp]
theorem cp_end {α : Type} (d : α) (xs : List α) : cp d xs xs.length = xs := by simp [cp]
theorem cp_set {α : Type} (d : α) (xs : List α) (k : Nat) (h : k < xs.length) : (cp d xs k).set k xs[k] = cp d xs (k + 1) := by
  have hl : (xs.take k).length = k := by simp; omega
  unfold cp
  rw [List.set_append_right _ _ (by omega), hl, Nat.sub_self, show xs.length - k = xs.length - (k + 1) + 1 from by omega, List.replicate_succ, List.set_cons_zero, take_step (List.getElem?_eq_getElem h), List.append_assoc]
  rfl

theorem made_rep (zs : List Value) (n : Nat) : (madeCells zs.toArray (n * zs.length)).toList = (List.replicate n zs).flatten := by
  apply List.ext_getElem?
  intro i
  by_cases hz : zs.length = 0
  · have : zs = [] := List.eq_nil_of_length_eq_zero hz
    subst this
    simp [madeCells]
  · by_cases hi : i < n * zs.length
    · have hlt : i / zs.length < n := (Nat.div_lt_iff_lt_mul (by omega)).2 hi
      have hm : i % zs.length < zs.length := Nat.mod_lt _ (by omega)
      have e := Shape.flat_at (d := zs.length) (css := List.replicate n zs) (fun c hc => by rw [(List.mem_replicate.1 hc).2]) (j := i / zs.length) (f := i % zs.length) (cs := zs) (by rw [List.getElem?_replicate, if_pos hlt]) hm
      rw [show i / zs.length * zs.length + i % zs.length = i from by rw [Nat.mul_comm]; exact Nat.div_add_mod i _] at e
      rw [e]
      simp [madeCells, hi, List.getElem?_eq_getElem hm]
    · have hl := Shape.flat_length (d := zs.length) (css := List.replicate n zs) (fun c hc => by rw [(List.mem_replicate.1 hc).2])
      rw [List.getElem?_eq_none (by simp [madeCells]; omega), List.getElem?_eq_none (by rw [hl]; simp; omega)]

namespace Shape
variable {α : Type} {E : Shape α}
/-- A row of zero values just made. -/
theorem row_made {w : World} {base n : Nat} {e : TypeId} {v : Value} {zs : List Value} {d : α} (hz : zs.length = E.wd) (hd : ∀ l h w, E.rep true l h w zs d)
    (hr : w.ownsRow base e E.wd v n (madeCells zs.toArray (n * zs.length)).toList) (hb : base ≤ w.heap.size) : (row E).rep true base w.heap.size w [v] (List.replicate n d) := by
  rw [made_rep] at hr
  refine row_owns (css := List.replicate n zs) (by simpa using hr) (by simp) (fun c hc => by rw [(List.mem_replicate.1 hc).2, hz]) (Nat.le_refl _) (Nat.le_refl _) (fun _ => w.heap.size) (fun _ => w.heap.size) ⟨fun g o m cap hv j hj => .inl ?_, fun _ _ _ _ => .inl (Nat.le_refl _)⟩ (fun j x cs hx hc => ?_)
  · rcases hr.2 with ⟨rfl, _⟩ | ⟨g', cap', cur, rfl, _⟩
    · cases hv
    · cases hv; exact (hr.lt _ rfl).2
  · rw [List.getElem?_replicate] at hx hc
    split at hx
    · rw [if_pos ‹_›] at hc
      simp only [Option.some.injEq] at hx hc
      subst hx; subst hc
      exact ⟨hb, Nat.le_refl _, hd _ _ _⟩
    · cases hx
theorem Chg.wide {b s n L H L' H' : Nat} {w w' : World} (c : Chg b s n L H w w') (h1 : L' ≤ L) (h2 : H ≤ H') : Chg b s n L' H' w w' := ⟨c.size, fun k a1 a2 a3 => c.block k a1 a2 (by omega), c.cell, c.frozen⟩
/-- An element of a row of one's own is replaced by one that lies in new memory. -/
theorem row_fill {l h : Nat} {w : World} {b n cap : Nat} {xs : List α} (t : (row E).rep true l h w [.slice (some ⟨b, 0, none⟩) n cap] xs) {j : Nat} (hj : j < xs.length) (hh : h ≤ w.heap.size) :
    b < h ∧ (∃ cs : List Value, cs.length = E.wd ∧ ∀ f c, cs[f]? = some c → w.cell? ⟨b, j * E.wd + f, none⟩ = some c) ∧ (∀ i, w.frozen? ⟨b, i, none⟩ = false) ∧
      ∀ w' cs' x' L' h', Chg b (j * E.wd) E.wd L' L' w w' → (∀ f c, cs'[f]? = some c → w'.cell? ⟨b, j * E.wd + f, none⟩ = some c) → E.rep true L' h' w cs' x' → Same L' h' w w' → h ≤ L' → h ≤ h' →
        (row E).rep true l h' w' [.slice (some ⟨b, 0, none⟩) n cap] (xs.set j x') := by
  obtain ⟨b', off, cs, L, H, e, h1, h2, h3, h4, hc, hr, ho⟩ := row_focus t hj
  simp only [Option.some.injEq, Addr.mk.injEq, and_true] at e
  obtain ⟨rfl, rfl⟩ := e
  obtain ⟨o1, o2, o3⟩ := ho rfl
  refine ⟨h2, ⟨cs, E.len hr, fun f c hf => by have := hc f c hf; rwa [Nat.zero_add] at this⟩, o2, fun w' cs' x' L' h' hch hcs hrep hsame hL hhh => ?_⟩
  refine o3 w' cs' x' L' h' h' ?_ (fun f c hf => by rw [Nat.zero_add]; exact hcs f c hf) (E.agree hrep hsame) hh hhh (.inr ⟨hL, Nat.le_refl _⟩)
  rw [Nat.zero_add]
  exact ⟨hch.size, fun k a1 a2 a3 => hch.block k a1 a2 (by omega), hch.cell, hch.frozen⟩
end Shape

theorem same_set {l h b o : Nat} {w : World} {u : Value} (hb : b < l) : Same l h w (w.setCell ⟨b, o, none⟩ u) := fun k h1 h2 => Below.heap_setCell _ _ _ _ (by simp; omega)
theorem Same.trans {l h : Nat} {a b c : World} (s : Same l h a b) (t : Same l h b c) : Same l h a c := fun k h1 h2 => (t k h1 h2).trans (s k h1 h2)

theorem linInfo : (Try.prog.info? 39).map (fun i => (i.zero, i.size, i.bytes)) = some (some (.agg #[.slice none 0 0]), 1, 24) := by kernel_rfl

theorem LinS.made {w : World} {base n : Nat} {v : Value} (hr : w.ownsRow base 39 1 v n (madeCells #[.slice none 0 0] (n * 1)).toList) (hb : base ≤ w.heap.size) : LinS true base w.heap.size w v (List.replicate n []) :=
  Shape.row_made (E := Shape.lin) (zs := [.slice none 0 0]) (d := ([] : List T)) rfl (fun l h w => ⟨_, rfl, Terms.nil _ _ _ _⟩) hr hb
theorem LinS.fill {l h : Nat} {w : World} {b n cap : Nat} {xs : List (List T)} (t : LinS true l h w (.slice (some ⟨b, 0, none⟩) n cap) xs) {j : Nat} (hj : j < xs.length) (hh : h ≤ w.heap.size) :
    (∃ c, w.cell? ⟨b, j, none⟩ = some c) ∧ w.frozen? ⟨b, j, none⟩ = false ∧ ∀ u ts L' h', Terms true L' h' w u ts → h ≤ L' → h ≤ h' → LinS true l h' (w.setCell ⟨b, j, none⟩ u) (.slice (some ⟨b, 0, none⟩) n cap) (xs.set j ts) := by
  obtain ⟨hb, ⟨cs, hl, hc⟩, hf, hu⟩ := Shape.row_fill (E := Shape.lin) t hj hh
  match cs, hl with
  | [c0], _ =>
    have c := hc 0 c0 rfl
    simp only [show Shape.lin.wd = 1 from rfl, Nat.mul_one, Nat.add_zero] at c hu
    refine ⟨⟨c0, c⟩, hf j, fun u ts L' h' tu hL hhh => ?_⟩
    refine hu _ [u] ts L' h' ((Shape.Chg.refl _ _ _ _ _ _).setCell (Nat.le_refl _) (by omega) u) (fun f x hx => ?_) ⟨u, rfl, tu⟩ (same_set (by omega)) hL hhh
    match f, hx with
    | 0, hx => simp only [List.getElem?_cons_zero, Option.some.injEq] at hx; subst hx; exact World.cell?_setCell_same _ _ _ c

end Go.Proofs.Ytcenijdaacbgpaa.L

/- Copies of hints and constraints. -/
namespace Go.Proofs.Ytcenijdaacbgpaa.L
open Go.RowKit Go.Proofs.Ytcenijdaacbgpaa.S
set_option linter.unusedVariables false
set_option linter.unusedSimpArgs false

theorem Same.refl (l h : Nat) (w : World) : Same l h w w := fun _ _ _ => rfl
theorem Same.set {l h b o : Nat} {a w : World} {u : Value} (s : Same l h a w) (hb : b < l) : Same l h a (w.setCell ⟨b, o, none⟩ u) := s.trans (same_set hb)

end Go.Proofs.Ytcenijdaacbgpaa.L

/- Copies of slices of hints and constraints, and of systems. -/
namespace Go.Proofs.Ytcenijdaacbgpaa.L
open Go.RowKit Go.Proofs.Ytcenijdaacbgpaa.S
set_option linter.unusedVariables false
set_option linter.unusedSimpArgs false

theorem HintInfo : (Try.prog.info? 96).map (fun i => (i.zero, i.size, i.bytes)) = some (some (.agg #[.int .i64 0, .slice none 0 0, .slice none 0 0, .int .i64 0]), 4, 64) := by kernel_rfl
theorem HintS.made {w : World} {base n : Nat} {v : Value} (hr : w.ownsRow base 96 4 v n (madeCells #[.int .i64 0, .slice none 0 0, .slice none 0 0, .int .i64 0] (n * 4)).toList) (hb : base ≤ w.heap.size) : HintS true base w.heap.size w v (List.replicate n ⟨0, [], [], 0⟩) :=
  Shape.row_made (E := hintSh) (zs := [.int .i64 0, .slice none 0 0, .slice none 0 0, .int .i64 0]) (d := (⟨0, [], [], 0⟩ : HintC)) rfl (fun l h w => ⟨_, _, l, min l h, l, min l h, rfl, by unfold Fits; simp, by unfold Fits; simp, Nat.le_refl _, Nat.min_le_right _ _, Nat.le_refl _, Nat.min_le_right _ _, fun _ => .inl (Nat.min_le_left _ _), Terms.nil _ _ _ _, Terms.nil _ _ _ _⟩) hr hb
set_option maxHeartbeats 1600000 in
theorem HintS.fill {l h : Nat} {w : World} {b n cap : Nat} {xs : List HintC} (t : HintS true l h w (.slice (some ⟨b, 0, none⟩) n cap) xs) {j : Nat} (hj : j < xs.length) (hh : h ≤ w.heap.size) :
    (∃ c0 c1 c2 c3, w.cell? ⟨b, j * 4, none⟩ = some c0 ∧ w.cell? ⟨b, j * 4 + 1, none⟩ = some c1 ∧ w.cell? ⟨b, j * 4 + 2, none⟩ = some c2 ∧ w.cell? ⟨b, j * 4 + 3, none⟩ = some c3) ∧ (∀ i, w.frozen? ⟨b, i, none⟩ = false) ∧ ∀ (x : HintC) ua ub L' M1 h', Fits x.kind → Fits x.k → Terms true L' M1 w ua x.a → Terms true M1 h' w ub x.b → h ≤ L' → L' ≤ M1 → M1 ≤ h' → h ≤ h' → h' ≤ w.heap.size →
      HintS true l h' ((((w.setCell ⟨b, j * 4, none⟩ (.int .i64 x.kind)).setCell ⟨b, j * 4 + 1, none⟩ ua).setCell ⟨b, j * 4 + 2, none⟩ ub).setCell ⟨b, j * 4 + 3, none⟩ (.int .i64 x.k)) (.slice (some ⟨b, 0, none⟩) n cap) (xs.set j x) := by
  obtain ⟨hb, ⟨cs, hl, hc⟩, hf, hu⟩ := Shape.row_fill (E := hintSh) t hj hh
  match cs, hl with
  | [c0, c1, c2, c3], _ =>
    have k0 : w.cell? ⟨b, j * 4, none⟩ = some c0 := hc 0 c0 rfl
    have k1 : w.cell? ⟨b, j * 4 + 1, none⟩ = some c1 := hc 1 c1 rfl
    have k2 : w.cell? ⟨b, j * 4 + 2, none⟩ = some c2 := hc 2 c2 rfl
    have k3 : w.cell? ⟨b, j * 4 + 3, none⟩ = some c3 := hc 3 c3 rfl
    refine ⟨⟨c0, c1, c2, c3, k0, k1, k2, k3⟩, hf, fun x ua ub L' M1 h' fkind fk ta tb hL g0 g1 hhh hhs => ?_⟩
    have hs : Same L' h' w ((((w.setCell ⟨b, j * 4, none⟩ (.int .i64 x.kind)).setCell ⟨b, j * 4 + 1, none⟩ ua).setCell ⟨b, j * 4 + 2, none⟩ ub).setCell ⟨b, j * 4 + 3, none⟩ (.int .i64 x.k)) := Same.set (Same.set (Same.set (Same.set (Same.refl _ _ _) (by omega)) (by omega)) (by omega)) (by omega)
    have m0 : ((((w.setCell ⟨b, j * 4, none⟩ (.int .i64 x.kind)).setCell ⟨b, j * 4 + 1, none⟩ ua).setCell ⟨b, j * 4 + 2, none⟩ ub).setCell ⟨b, j * 4 + 3, none⟩ (.int .i64 x.k)).cell? ⟨b, j * 4, none⟩ = some (.int .i64 x.kind) := ((World.cell?_setCell_other _ _ _ _ (by simp <;> omega)).trans ((World.cell?_setCell_other _ _ _ _ (by simp <;> omega)).trans ((World.cell?_setCell_other _ _ _ _ (by simp <;> omega)).trans (World.cell?_setCell_same _ _ (.int .i64 x.kind) k0))))
    have m1 : ((((w.setCell ⟨b, j * 4, none⟩ (.int .i64 x.kind)).setCell ⟨b, j * 4 + 1, none⟩ ua).setCell ⟨b, j * 4 + 2, none⟩ ub).setCell ⟨b, j * 4 + 3, none⟩ (.int .i64 x.k)).cell? ⟨b, j * 4 + 1, none⟩ = some ua := ((World.cell?_setCell_other _ _ _ _ (by simp <;> omega)).trans ((World.cell?_setCell_other _ _ _ _ (by simp <;> omega)).trans (World.cell?_setCell_same _ _ ua ((World.cell?_setCell_other _ _ _ _ (by simp <;> omega)).trans k1))))
    have m2 : ((((w.setCell ⟨b, j * 4, none⟩ (.int .i64 x.kind)).setCell ⟨b, j * 4 + 1, none⟩ ua).setCell ⟨b, j * 4 + 2, none⟩ ub).setCell ⟨b, j * 4 + 3, none⟩ (.int .i64 x.k)).cell? ⟨b, j * 4 + 2, none⟩ = some ub := ((World.cell?_setCell_other _ _ _ _ (by simp <;> omega)).trans (World.cell?_setCell_same _ _ ub ((World.cell?_setCell_other _ _ _ _ (by simp <;> omega)).trans ((World.cell?_setCell_other _ _ _ _ (by simp <;> omega)).trans k2))))
    have m3 : ((((w.setCell ⟨b, j * 4, none⟩ (.int .i64 x.kind)).setCell ⟨b, j * 4 + 1, none⟩ ua).setCell ⟨b, j * 4 + 2, none⟩ ub).setCell ⟨b, j * 4 + 3, none⟩ (.int .i64 x.k)).cell? ⟨b, j * 4 + 3, none⟩ = some (.int .i64 x.k) := (World.cell?_setCell_same _ _ (.int .i64 x.k) ((World.cell?_setCell_other _ _ _ _ (by simp <;> omega)).trans ((World.cell?_setCell_other _ _ _ _ (by simp <;> omega)).trans ((World.cell?_setCell_other _ _ _ _ (by simp <;> omega)).trans k3))))
    refine hu _ [.int .i64 x.kind, ua, ub, .int .i64 x.k] x L' h' (show Shape.Chg b (j * 4) 4 L' L' w _ from ((((Shape.Chg.refl _ _ _ _ _ _).setCell (i := j * 4) (by omega) (by omega) (.int .i64 x.kind)).setCell (i := j * 4 + 1) (by omega) (by omega) ua).setCell (i := j * 4 + 2) (by omega) (by omega) ub).setCell (i := j * 4 + 3) (by omega) (by omega) (.int .i64 x.k)) (fun f c hx => ?_) ⟨ua, ub, L', M1, M1, h', rfl, fkind, fk, Nat.le_refl _, by omega, by omega, Nat.le_refl _, fun _ => .inl (Nat.le_refl _), ta, tb⟩ hs hL hhh
    match f, hx with
    | 0, hx => simp only [List.getElem?_cons_succ, List.getElem?_cons_zero, Option.some.injEq] at hx; subst hx; exact m0
    | 1, hx => simp only [List.getElem?_cons_succ, List.getElem?_cons_zero, Option.some.injEq] at hx; subst hx; exact m1
    | 2, hx => simp only [List.getElem?_cons_succ, List.getElem?_cons_zero, Option.some.injEq] at hx; subst hx; exact m2
    | 3, hx => simp only [List.getElem?_cons_succ, List.getElem?_cons_zero, Option.some.injEq] at hx; subst hx; exact m3

theorem ConInfo : (Try.prog.info? 72).map (fun i => (i.zero, i.size, i.bytes)) = some (some (.agg #[.slice none 0 0, .slice none 0 0, .slice none 0 0]), 3, 72) := by kernel_rfl
theorem ConS.made {w : World} {base n : Nat} {v : Value} (hr : w.ownsRow base 72 3 v n (madeCells #[.slice none 0 0, .slice none 0 0, .slice none 0 0] (n * 3)).toList) (hb : base ≤ w.heap.size) : ConS true base w.heap.size w v (List.replicate n ⟨[], [], []⟩) :=
  Shape.row_made (E := conSh) (zs := [.slice none 0 0, .slice none 0 0, .slice none 0 0]) (d := (⟨[], [], []⟩ : ConC)) rfl (fun l h w => ⟨_, _, _, l, min l h, l, min l h, l, min l h, rfl, Nat.le_refl _, Nat.min_le_right _ _, Nat.le_refl _, Nat.min_le_right _ _, Nat.le_refl _, Nat.min_le_right _ _, fun _ => ⟨.inl (Nat.min_le_left _ _), .inl (Nat.min_le_left _ _), .inl (Nat.min_le_left _ _)⟩, Terms.nil _ _ _ _, Terms.nil _ _ _ _, Terms.nil _ _ _ _⟩) hr hb
set_option maxHeartbeats 1600000 in
theorem ConS.fill {l h : Nat} {w : World} {b n cap : Nat} {xs : List ConC} (t : ConS true l h w (.slice (some ⟨b, 0, none⟩) n cap) xs) {j : Nat} (hj : j < xs.length) (hh : h ≤ w.heap.size) :
    (∃ c0 c1 c2, w.cell? ⟨b, j * 3, none⟩ = some c0 ∧ w.cell? ⟨b, j * 3 + 1, none⟩ = some c1 ∧ w.cell? ⟨b, j * 3 + 2, none⟩ = some c2) ∧ (∀ i, w.frozen? ⟨b, i, none⟩ = false) ∧ ∀ (x : ConC) ua ub uc L' M1 M2 h', Terms true L' M1 w ua x.a → Terms true M1 M2 w ub x.b → Terms true M2 h' w uc x.c → h ≤ L' → L' ≤ M1 → M1 ≤ M2 → M2 ≤ h' → h ≤ h' → h' ≤ w.heap.size →
      ConS true l h' (((w.setCell ⟨b, j * 3, none⟩ ua).setCell ⟨b, j * 3 + 1, none⟩ ub).setCell ⟨b, j * 3 + 2, none⟩ uc) (.slice (some ⟨b, 0, none⟩) n cap) (xs.set j x) := by
  obtain ⟨hb, ⟨cs, hl, hc⟩, hf, hu⟩ := Shape.row_fill (E := conSh) t hj hh
  match cs, hl with
  | [c0, c1, c2], _ =>
    have k0 : w.cell? ⟨b, j * 3, none⟩ = some c0 := hc 0 c0 rfl
    have k1 : w.cell? ⟨b, j * 3 + 1, none⟩ = some c1 := hc 1 c1 rfl
    have k2 : w.cell? ⟨b, j * 3 + 2, none⟩ = some c2 := hc 2 c2 rfl
    refine ⟨⟨c0, c1, c2, k0, k1, k2⟩, hf, fun x ua ub uc L' M1 M2 h'  ta tb tc hL g0 g1 g2 hhh hhs => ?_⟩
    have hs : Same L' h' w (((w.setCell ⟨b, j * 3, none⟩ ua).setCell ⟨b, j * 3 + 1, none⟩ ub).setCell ⟨b, j * 3 + 2, none⟩ uc) := Same.set (Same.set (Same.set (Same.refl _ _ _) (by omega)) (by omega)) (by omega)
    have m0 : (((w.setCell ⟨b, j * 3, none⟩ ua).setCell ⟨b, j * 3 + 1, none⟩ ub).setCell ⟨b, j * 3 + 2, none⟩ uc).cell? ⟨b, j * 3, none⟩ = some ua := ((World.cell?_setCell_other _ _ _ _ (by simp <;> omega)).trans ((World.cell?_setCell_other _ _ _ _ (by simp <;> omega)).trans (World.cell?_setCell_same _ _ ua k0)))
    have m1 : (((w.setCell ⟨b, j * 3, none⟩ ua).setCell ⟨b, j * 3 + 1, none⟩ ub).setCell ⟨b, j * 3 + 2, none⟩ uc).cell? ⟨b, j * 3 + 1, none⟩ = some ub := ((World.cell?_setCell_other _ _ _ _ (by simp <;> omega)).trans (World.cell?_setCell_same _ _ ub ((World.cell?_setCell_other _ _ _ _ (by simp <;> omega)).trans k1)))
    have m2 : (((w.setCell ⟨b, j * 3, none⟩ ua).setCell ⟨b, j * 3 + 1, none⟩ ub).setCell ⟨b, j * 3 + 2, none⟩ uc).cell? ⟨b, j * 3 + 2, none⟩ = some uc := (World.cell?_setCell_same _ _ uc ((World.cell?_setCell_other _ _ _ _ (by simp <;> omega)).trans ((World.cell?_setCell_other _ _ _ _ (by simp <;> omega)).trans k2)))
    refine hu _ [ua, ub, uc] x L' h' (show Shape.Chg b (j * 3) 3 L' L' w _ from (((Shape.Chg.refl _ _ _ _ _ _).setCell (i := j * 3) (by omega) (by omega) ua).setCell (i := j * 3 + 1) (by omega) (by omega) ub).setCell (i := j * 3 + 2) (by omega) (by omega) uc) (fun f c hx => ?_) ⟨ua, ub, uc, L', M1, M1, M2, M2, h', rfl, Nat.le_refl _, by omega, by omega, by omega, by omega, Nat.le_refl _, fun _ => ⟨.inl (Nat.le_refl _), .inl (by omega), .inl (Nat.le_refl _)⟩, ta, tb, tc⟩ hs hL hhh
    match f, hx with
    | 0, hx => simp only [List.getElem?_cons_succ, List.getElem?_cons_zero, Option.some.injEq] at hx; subst hx; exact m0
    | 1, hx => simp only [List.getElem?_cons_succ, List.getElem?_cons_zero, Option.some.injEq] at hx; subst hx; exact m1
    | 2, hx => simp only [List.getElem?_cons_succ, List.getElem?_cons_zero, Option.some.injEq] at hx; subst hx; exact m2

end Go.Proofs.Ytcenijdaacbgpaa.L

/- Copies of systems. -/
namespace Go.Proofs.Ytcenijdaacbgpaa.L
open Go.RowKit Go.Proofs.Ytcenijdaacbgpaa.S
set_option linter.unusedVariables false
set_option linter.unusedSimpArgs false

theorem mem_tot {α : Type} {f : α → Nat} {xs : List α} {x : α} (h : x ∈ xs) : f x ≤ tot f xs := by
  unfold tot
  induction xs with
  | nil => cases h
  | cons y ys ih =>
    rw [List.map_cons, List.sum_cons]
    rcases List.mem_cons.1 h with rfl | h
    · omega
    · have := ih h; omega

end Go.Proofs.Ytcenijdaacbgpaa.L

/- Marks of slices of combinations, hints, constraints, and of systems. -/
namespace Go.Proofs.Ytcenijdaacbgpaa.L
open Go.RowKit Go.Proofs.Ytcenijdaacbgpaa.S
set_option linter.unusedVariables false
set_option linter.unusedSimpArgs false

/-- What marking leaves of a list: each element is marked on from where the one before it ended. -/
def mkA {α : Type} (g : Nat → α → α) (f : α → Nat) : Nat → List α → List α
  | _, [] => []
  | m, x :: r => g m x :: mkA g f (m + f x) r
theorem mkA_length {α : Type} (g : Nat → α → α) (f : α → Nat) (l : List α) : ∀ m, (mkA g f m l).length = l.length := by
  induction l with
  | nil => intro m; rfl
  | cons x r ih => intro m; simp [mkA, ih]
theorem mkA_snoc {α : Type} (g : Nat → α → α) (f : α → Nat) (l : List α) (x : α) : ∀ m, mkA g f m (l ++ [x]) = mkA g f m l ++ [g (m + tot f l) x] := by
  induction l with
  | nil => intro m; simp [mkA, tot]
  | cons y r ih => intro m; rw [List.cons_append, mkA, mkA, ih, show m + f y + tot f r = m + tot f (y :: r) from by simp [tot]; omega]; rfl
theorem mkA_at {α : Type} (g : Nat → α → α) (f : α → Nat) (l : List α) : ∀ m k (h : k < l.length), (mkA g f m l)[k]? = some (g (m + tot f (l.take k)) l[k]) := by
  induction l with
  | nil => intro m k h; simp at h
  | cons y r ih =>
    intro m k h
    cases k with
    | zero => simp [mkA, tot]
    | succ k =>
      simp only [mkA, List.getElem?_cons_succ]
      rw [ih (m + f y) k (by simpa using h), List.take_succ_cons, show m + f y + tot f (r.take k) = m + tot f (y :: r.take k) from by simp [tot]; omega]
      rfl
/-- Behind k rounds of marking. -/
def mix {α : Type} (g : Nat → α → α) (f : α → Nat) (m : Nat) (xs : List α) (k : Nat) : List α := mkA g f m (xs.take k) ++ xs.drop k
theorem mix_length {α : Type} {g : Nat → α → α} {f : α → Nat} {m : Nat} {xs : List α} {k : Nat} (h : k ≤ xs.length) : (mix g f m xs k).length = xs.length := by
  unfold mix; simp [mkA_length]; omega
theorem mix_at {α : Type} {g : Nat → α → α} {f : α → Nat} {m : Nat} {xs : List α} {k : Nat} (h : k < xs.length) (h' : k < (mix g f m xs k).length) : (mix g f m xs k)[k] = xs[k] := by
  have e : (mix g f m xs k)[k]? = some xs[k] := by
    unfold mix
    have hl : (mkA g f m (xs.take k)).length = k := by rw [mkA_length]; simp; omega
    rw [List.getElem?_append_right (by omega), hl, Nat.sub_self, List.drop_eq_getElem_cons h]; rfl
  rw [List.getElem?_eq_getElem h'] at e
  exact Option.some.inj e
theorem mix_set {α : Type} {g : Nat → α → α} {f : α → Nat} {m : Nat} {xs : List α} {k : Nat} (h : k < xs.length) : (mix g f m xs k).set k (g (m + tot f (xs.take k)) xs[k]) = mix g f m xs (k + 1) := by
  unfold mix
  have hl : (mkA g f m (xs.take k)).length = k := by rw [mkA_length]; simp; omega
  rw [List.set_append_right _ _ (by omega), hl, Nat.sub_self, List.drop_eq_getElem_cons h, List.set_cons_zero, take_step (List.getElem?_eq_getElem h), mkA_snoc, List.append_assoc]
  rfl
theorem mix_zero {α : Type} {g : Nat → α → α} {f : α → Nat} {m : Nat} {xs : List α} : mix g f m xs 0 = xs := rfl
theorem mix_end {α : Type} {g : Nat → α → α} {f : α → Nat} {m : Nat} {xs : List α} : mix g f m xs xs.length = mkA g f m xs := by simp [mix]

def fL (t : List T) : Nat := 2 * t.length
def gL (m : Nat) (t : List T) : List T := marks m t.length
def fH (x : HintC) : Nat := 2 + 2 * x.a.length + 2 * x.b.length
def gH (m : Nat) (x : HintC) : HintC := ⟨m, marks (m + 1) x.a.length, marks (m + 1 + 2 * x.a.length) x.b.length, (m + 1 + 2 * x.a.length + 2 * x.b.length : Nat)⟩
def fC (x : ConC) : Nat := 2 * x.a.length + 2 * x.b.length + 2 * x.c.length
def gC (m : Nat) (x : ConC) : ConC := ⟨marks m x.a.length, marks (m + 2 * x.a.length) x.b.length, marks (m + 2 * x.a.length + 2 * x.b.length) x.c.length⟩

theorem same_set2 {l h b o : Nat} {w : World} {u : Value} (hb : b < l ∨ h ≤ b) : Same l h w (w.setCell ⟨b, o, none⟩ u) := fun k h1 h2 => Below.heap_setCell _ _ _ _ (by simp; omega)

def totS (s : SysC) : Nat := tot fL s.outs + tot fH s.hints + tot fC s.cons
def mkS (m : Nat) (s : SysC) : SysC := ⟨s.ins, mkA gL fL m s.outs, mkA gH fH (m + tot fL s.outs) s.hints, mkA gC fC (m + tot fL s.outs + tot fH s.hints) s.cons⟩
theorem tot_fL (xs : List (List T)) : tot fL xs = 2 * tot List.length xs := by
  induction xs with
  | nil => rfl
  | cons x r ih => simp only [tot, List.map_cons, List.sum_cons, fL] at *; omega
theorem tot_fH (xs : List HintC) : tot fH xs = 2 * xs.length + 2 * tot szH xs := by
  induction xs with
  | nil => rfl
  | cons x r ih => simp only [tot, List.map_cons, List.sum_cons, fH, szH, List.length_cons] at *; omega
theorem tot_fC (xs : List ConC) : tot fC xs = 2 * tot szC xs := by
  induction xs with
  | nil => rfl
  | cons x r ih => simp only [tot, List.map_cons, List.sum_cons, fC, szC] at *; omega
theorem totS_le (s : SysC) : totS s ≤ 2 * szS s := by
  unfold totS szS szLs szHs szCs
  rw [tot_fL, tot_fH, tot_fC]; omega

end Go.Proofs.Ytcenijdaacbgpaa.L
