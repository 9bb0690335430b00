/- B10: Open OpenS -/
import Derived.Test.YthipgpbapdambaaGreatB1
import Derived.Deep.Slices
import Derived.Deep.Fields
import Derived.ChangeSame
import Derived.OpenShut
set_option linter.unusedVariables false
set_option linter.unusedSimpArgs false
/- From what the frame of a law tells of a linear combination that came in to what the walks ask. -/
namespace Go.Proofs.YthipgpbapdambaaGreat.L
open Go.RowKit Go.Proofs.YthipgpbapdambaaGreat.S Go.ChangeShapes Go.WideShapes Go.Deep Go.OpenShut
set_option linter.unusedVariables false
set_option linter.unusedSimpArgs false

theorem cellsTerm : Tryz.prog.cellsOf 187 = 2 := by kernel_rfl
theorem cellsLin : Tryz.prog.cellsOf 129 = 1 := by kernel_rfl
theorem cellsTerms : Tryz.prog.cellsOf 127 = 1 := by kernel_rfl
theorem cellsInt : Tryz.prog.cellsOf 3 = 1 := by kernel_rfl

theorem len1 {α : Type} {l : List α} (h : l.length = 1) : ∃ a, l = [a] := by
 match l, h with
 | [a], _ => exact ⟨a, rfl⟩
theorem len2 {α : Type} {l : List α} (h : l.length = 2) : ∃ a b, l = [a, b] := by
 match l, h with
 | [a, b], _ => exact ⟨a, b, rfl⟩

section
variable {H : Type} {enc : TypeId × Value → H} {w : World} {spare : Nat → Bool} {held : Bool}

theorem fits_of {n : Int} (h : (Lit.int .i64 n).wf = true) : Fits n := bounds_i64 h

set_option maxRecDepth 100000 in
theorem open_term {fuel : Nat} {cs : List Value} {x : DataW H × List MemPlace} (h : DataW.trod enc Tryz.prog w 0 spare held fuel 187 cs = some x) :
  ∃ a b : Int, cs = [.int .i64 a, .int .i64 b] ∧ Fits a ∧ Fits b := by
 obtain ⟨xs, n, _, _, hl, hxs, hf⟩ := DataW.trod_struct Tryz.underlying187 h
 rw [cellsTerm] at hl
 obtain ⟨c0, c1, rfl⟩ := len2 hl
 obtain ⟨x0, x1, rfl⟩ := len2 (show xs.length = 2 from hxs)
 have h0 : DataW.trod enc Tryz.prog w 0 spare held n 3 (([c0, c1].drop 0).take (Tryz.prog.cellsOf 3)) = [x0, x1][0]? := hf 0 _ rfl
 have h1 : DataW.trod enc Tryz.prog w 0 spare held n 3 (([c0, c1].drop 1).take (Tryz.prog.cellsOf 3)) = [x0, x1][1]? := hf 1 _ rfl
 rw [cellsInt] at h0 h1
 simp only [List.drop_zero, List.take_succ_cons, List.take_zero, List.getElem?_cons_zero, List.drop_succ_cons, List.getElem?_cons_succ] at h0 h1
 obtain ⟨a, ha, _, wa⟩ := DataW.trod_int Tryz.underlying3 h0
 obtain ⟨b, hb, _, wb⟩ := DataW.trod_int Tryz.underlying3 h1
 simp only [List.cons.injEq, and_true] at ha hb
 exact ⟨a, b, by rw [ha, hb], fits_of wa, fits_of wb⟩

set_option maxRecDepth 100000 in
theorem open_terms {fuel : Nat} {cs : List Value} {x : DataW H × List MemPlace} (h : DataW.trod enc Tryz.prog w 0 spare held fuel 127 cs = some x) :
  ∃ v ts, cs = [v] ∧ Terms false 0 w.heap.size w v ts := by
 rcases open_slice Tryz.underlying127 h with ⟨hcs, _⟩ | ⟨a, len, cap, m, n, D, Pl, hcs, _, hl, hm, hmm, _, hi⟩
 ·exact ⟨_, [], hcs, Terms.nil _ _ _ _⟩
 ·rw [cellsTerm] at hi
  have hlm : len ≤ m := by rw [hmm]; split <;> omega
  have key : ∀ i, i < len → ∃ x y : Int, Fits x ∧ Fits y ∧ w.cell? (a.add (i * 2)) = some (.int .i64 x) ∧ w.cell? (a.add (i * 2 + 1)) = some (.int .i64 y) := by
   intro i hil
   obtain ⟨cs', hc, ht'⟩ := hi i (by omega)
   obtain ⟨x, y, rfl, fx, fy⟩ := open_term ht'
   obtain ⟨_, _, hat⟩ := World.cells?_some hc
   have h0 := hat 0 (by omega)
   have h1 := hat 1 (by omega)
   rw [Go.Deep.add_add] at h0 h1
   exact ⟨x, y, fx, fy, by simpa using h0, by simpa using h1⟩
  have hf : ∀ i : Fin len, ∃ t : T, Fits t.1 ∧ Fits t.2 ∧ w.cell? (a.add (i.1 * 2)) = some (.int .i64 t.1) ∧ w.cell? (a.add (i.1 * 2 + 1)) = some (.int .i64 t.2) := fun i => by
   obtain ⟨x, y, h⟩ := key i.1 i.2
   exact ⟨(x, y), h⟩
  obtain ⟨f, fs⟩ := Classical.skolem.1 hf
  clear hf key
  refine ⟨_, List.ofFn f, hcs, ?_⟩
  unfold maxLen at hm
  refine ⟨some a, cap, by simp, by simpa using hl, by omega, ?_, ?_⟩
  ·intro t ht
   obtain ⟨i, rfl⟩ := List.mem_ofFn.1 ht
   exact ⟨(fs i).1, (fs i).2.1⟩
  ·by_cases h0 : len = 0
   ·subst h0; exact .inl (by simp)
   ·have c0 := (fs ⟨0, by omega⟩).2.2.1
    obtain ⟨b, off, spot⟩ := a
    have hspot : spot = none := by simpa [Addr.add] using World.cell?_spot c0
    subst hspot
    rw [Go.WideShapes.add_plain] at c0
    refine .inr ⟨b, off, rfl, Nat.zero_le _, World.block_lt_of_cell? w _ c0, (fun h => by cases h), fun j t hj => ?_⟩
    have hjl : j < len := by have := (List.getElem?_eq_some_iff.1 hj).1; simpa using this
    have e : t = f ⟨j, hjl⟩ := by
     have := (List.getElem?_eq_some_iff.1 hj).2
     rw [← this]; simp
    subst e
    have := (fs ⟨j, hjl⟩).2.2
    rw [Go.WideShapes.add_plain, Go.WideShapes.add_plain] at this
    rw [Nat.add_assoc]
    exact this

set_option maxRecDepth 100000 in
/-- A linear combination that came in. -/
theorem open_lin {b0 : Nat} {v : Value} {d : DataW H} {p : List MemPlace} (hv : Value.okWide Tryz.prog w .any b0 129 v) (h : DataW.Trod enc Tryz.prog w 0 spare held 129 v d p) :
  ∃ u ts, v = .agg #[u] ∧ Terms false 0 w.heap.size w u ts := by
 obtain ⟨cs, rfl, hsz⟩ := okWide_struct Tryz.underlying129 hv
 obtain ⟨l⟩ := cs
 rw [cellsLin] at hsz
 obtain ⟨c0, rfl⟩ := len1 (show l.length = 1 from hsz)
 obtain ⟨fuel, hf⟩ := h
 obtain ⟨xs, n, _, _, hl, hxs, hg⟩ := DataW.trod_struct Tryz.underlying129 hf
 obtain ⟨x0, rfl⟩ := len1 (show xs.length = 1 from hxs)
 have h0 : DataW.trod enc Tryz.prog w 0 spare held n 127 (([c0].drop 0).take (Tryz.prog.cellsOf 127)) = [x0][0]? := hg 0 _ rfl
 rw [cellsTerms] at h0
 simp only [List.drop_zero, List.take_succ_cons, List.take_zero, List.getElem?_cons_zero] at h0
 obtain ⟨u, ts, hu, ht⟩ := open_terms h0
 simp only [List.cons.injEq, and_true] at hu
 subst hu
 exact ⟨_, ts, rfl, ht⟩

theorem ints_of {a : Option Addr} {len cap : Nat} {zs : List Int}
  (h : (a = none ∧ len = 0 ∧ cap = 0 ∧ zs = []) ∨ ∃ x, a = some x ∧ len ≤ cap ∧ cap ≤ maxLen ∧ zs.length = cap ∧ (∀ i, i < zs.length → w.cell? (x.add i) = some (.int .i64 (zs.getD i 0))) ∧ ∀ n ∈ zs, (Lit.int .i64 n).wf = true) : Ints w.heap.size w (.slice a len cap) (zs.take len) := by
 rcases h with ⟨rfl, rfl, rfl, rfl⟩ | ⟨x, rfl, hl, hm, hz, hc, hw⟩
 ·exact ⟨none, 0, rfl, Nat.le_refl _, by omega, by simp, .inl rfl⟩
 ·unfold maxLen at hm
  have hlen : (zs.take len).length = len := by simp; omega
  refine ⟨some x, cap, by rw [hlen], by omega, by omega, fun n hn => bounds_i64 (hw n (List.mem_of_mem_take hn)), ?_⟩
  by_cases h : len = 0
  ·exact .inl (by rw [h]; rfl)
  ·obtain ⟨b, off, rfl, hcc⟩ := ints_at hc (by omega)
   refine .inr ⟨b, off, rfl, World.block_lt_of_cell? w ⟨b, off + 0, none⟩ (hcc 0 (by omega)), fun j x hx => ?_⟩
   have hj : j < len := by have := (List.getElem?_eq_some_iff.1 hx).1; omega
   rw [List.getElem?_take, if_pos hj] at hx
   rw [hcc j (by omega), List.getD_eq_getElem?_getD, hx]
   rfl

set_option maxRecDepth 100000 in
/-- A slice of numbers that came in. -/
theorem open_ints' {b0 : Nat} {v : Value} {d : DataW H} {p : List MemPlace} (hv : Value.okWide Tryz.prog w .any b0 27 v) (h : DataW.Trod enc Tryz.prog w 0 (fun _ => true) held 27 v d p) :
  ∃ u xs, v = u ∧ Ints w.heap.size w u xs := by
 obtain ⟨a, len, cap, rfl⟩ := okWide_slice Tryz.underlying27 hv
 obtain ⟨fuel, hf⟩ := h
 rcases open_ints Tryz.underlying27 Tryz.underlying3 (by kernel_rfl) hf with ⟨hcs, _⟩ | ⟨x, l, c, zs, hcs, _, hl, hm, hz, _, hcell, hwz⟩
 ·simp [Value.cells] at hcs
  obtain ⟨rfl, rfl, rfl⟩ := hcs
  exact ⟨_, _, rfl, ints_of (zs := []) (.inl ⟨rfl, rfl, rfl, rfl⟩)⟩
 ·simp [Value.cells] at hcs
  obtain ⟨rfl, rfl, rfl⟩ := hcs
  exact ⟨_, _, rfl, ints_of (.inr ⟨_, rfl, hl, hm, by simpa using hz, hcell, hwz⟩)⟩
end
end Go.Proofs.YthipgpbapdambaaGreat.L

/- From what the frame of a law tells of a system or a constraint that came in to what the walks ask. -/
namespace Go.Proofs.YthipgpbapdambaaGreat.L
open Go.RowKit Go.Proofs.YthipgpbapdambaaGreat.S Go.ChangeShapes Go.WideShapes Go.Deep Go.OpenShut
set_option linter.unusedVariables false
set_option linter.unusedSimpArgs false

theorem cellsHint : Tryz.prog.cellsOf 132 = 4 := by kernel_rfl
theorem cellsCon : Tryz.prog.cellsOf 135 = 3 := by kernel_rfl
theorem cellsSys : Tryz.prog.cellsOf 26 = 4 := by kernel_rfl
theorem cellsLins : Tryz.prog.cellsOf 22 = 1 := by kernel_rfl
theorem cellsHints : Tryz.prog.cellsOf 23 = 1 := by kernel_rfl
theorem cellsCons : Tryz.prog.cellsOf 24 = 1 := by kernel_rfl
theorem len3 {α : Type} {l : List α} (h : l.length = 3) : ∃ a b c, l = [a, b, c] := by
 match l, h with
 | [a, b, c], _ => exact ⟨a, b, c, rfl⟩
theorem len4 {α : Type} {l : List α} (h : l.length = 4) : ∃ a b c d, l = [a, b, c, d] := by
 match l, h with
 | [a, b, c, d], _ => exact ⟨a, b, c, d, rfl⟩

section
variable {H : Type} {enc : TypeId × Value → H} {w : World} {spare : Nat → Bool} {held : Bool}

theorem open_rows {α : Type} {E : Shape α} {t e : TypeId} (ht : Tryz.prog.underlying t = some (.slice e)) (hC : Tryz.prog.cellsOf e = E.wd) (hpos : 0 < E.wd)
  (hE : ∀ {fuel : Nat} {cs : List Value} {x : DataW H × List MemPlace}, DataW.trod enc Tryz.prog w 0 spare held fuel e cs = some x → ∃ y, E.rep false 0 w.heap.size w cs y)
  {fuel : Nat} {cs : List Value} {x : DataW H × List MemPlace} (h : DataW.trod enc Tryz.prog w 0 spare held fuel t cs = some x) :
  ∃ v ys, cs = [v] ∧ (Shape.row E).rep false 0 w.heap.size w [v] ys := by
 rcases open_slice ht h with ⟨hcs, _⟩ | ⟨a, len, cap, m, n, D, Pl, hcs, _, hl, hm, hmm, _, hi⟩
 ·exact ⟨_, [], hcs, Shape.row_nil _ _ _ _⟩
 ·rw [hC] at hi
  have hlm : len ≤ m := by rw [hmm]; split <;> omega
  have hf : ∀ i : Fin len, ∃ p : List Value × α, E.rep false 0 w.heap.size w p.1 p.2 ∧ ∀ f c, p.1[f]? = some c → w.cell? (a.add (i.1 * E.wd + f)) = some c := by
   intro i
   obtain ⟨cs', hc, ht'⟩ := hi i.1 (by omega)
   obtain ⟨y, hy⟩ := hE ht'
   obtain ⟨_, _, hat⟩ := World.cells?_some hc
   refine ⟨(cs', y), hy, fun f c hfc => ?_⟩
   have hfl : f < E.wd := by rw [← E.len hy]; exact (List.getElem?_eq_some_iff.1 hfc).1
   have h0 := hat f hfl
   rw [Go.Deep.add_add] at h0
   rw [h0]; exact hfc
  obtain ⟨F, fs⟩ := Classical.skolem.1 hf
  clear hf
  refine ⟨_, List.ofFn (fun i => (F i).2), hcs, ?_⟩
  unfold maxLen at hm
  refine ⟨some a, cap, by simp, by simpa using hl, by omega, ?_⟩
  by_cases h0 : len = 0
  ·subst h0; exact .inl (by simp)
  ·have hl0 : 0 < (F ⟨0, by omega⟩).1.length := by rw [E.len (fs ⟨0, by omega⟩).1]; exact hpos
   have c0 := (fs ⟨0, by omega⟩).2 0 _ (List.getElem?_eq_getElem hl0)
   obtain ⟨b, off, spot⟩ := a
   have hspot : spot = none := by simpa [Addr.add] using World.cell?_spot c0
   subst hspot
   rw [Go.WideShapes.add_plain] at c0
   refine .inr ⟨b, off, rfl, Nat.zero_le _, World.block_lt_of_cell? w _ c0, (fun h => by cases h), fun j => if hj : j < len then (F ⟨j, hj⟩).1 else [], fun _ => 0, fun _ => w.heap.size, (fun h => by cases h), fun j y hj => ?_⟩
   have hjl : j < len := by have := (List.getElem?_eq_some_iff.1 hj).1; simpa using this
   have e : y = (F ⟨j, hjl⟩).2 := by
    have := (List.getElem?_eq_some_iff.1 hj).2
    rw [← this]; simp
   subst e
   simp only [hjl, dite_true]
   refine ⟨Nat.le_refl _, Nat.le_refl _, fun f c hfc => ?_, (fs ⟨j, hjl⟩).1⟩
   have := (fs ⟨j, hjl⟩).2 f c hfc
   rw [Go.WideShapes.add_plain] at this
   rw [Nat.add_assoc]
   exact this

set_option maxRecDepth 100000 in
theorem open_linc {fuel : Nat} {cs : List Value} {x : DataW H × List MemPlace} (h : DataW.trod enc Tryz.prog w 0 spare held fuel 129 cs = some x) : ∃ v ts, cs = [v] ∧ Terms false 0 w.heap.size w v ts := by
 obtain ⟨xs, n, _, _, hl, hxs, hg⟩ := DataW.trod_struct Tryz.underlying129 h
 rw [cellsLin] at hl
 obtain ⟨c0, rfl⟩ := len1 hl
 obtain ⟨x0, rfl⟩ := len1 (show xs.length = 1 from hxs)
 have h0 : DataW.trod enc Tryz.prog w 0 spare held n 127 (([c0].drop 0).take (Tryz.prog.cellsOf 127)) = [x0][0]? := hg 0 _ rfl
 rw [cellsTerms] at h0
 simp only [List.drop_zero, List.take_succ_cons, List.take_zero, List.getElem?_cons_zero] at h0
 obtain ⟨u, ts, hu, ht⟩ := open_terms h0
 exact ⟨u, ts, hu, ht⟩

set_option maxRecDepth 100000 in
theorem open_hintc {fuel : Nat} {cs : List Value} {x : DataW H × List MemPlace} (h : DataW.trod enc Tryz.prog w 0 spare held fuel 132 cs = some x) : ∃ y, hintSh.rep false 0 w.heap.size w cs y := by
 obtain ⟨xs, n, _, _, hl, hxs, hg⟩ := DataW.trod_struct Tryz.underlying132 h
 rw [cellsHint] at hl
 obtain ⟨c0, c1, c2, c3, rfl⟩ := len4 hl
 obtain ⟨x0, x1, x2, x3, rfl⟩ := len4 (show xs.length = 4 from hxs)
 have h0 : DataW.trod enc Tryz.prog w 0 spare held n 3 (([c0, c1, c2, c3].drop 0).take (Tryz.prog.cellsOf 3)) = [x0, x1, x2, x3][0]? := hg 0 _ rfl
 have h1 : DataW.trod enc Tryz.prog w 0 spare held n 129 (([c0, c1, c2, c3].drop 1).take (Tryz.prog.cellsOf 129)) = [x0, x1, x2, x3][1]? := hg 1 _ rfl
 have h2 : DataW.trod enc Tryz.prog w 0 spare held n 129 (([c0, c1, c2, c3].drop 2).take (Tryz.prog.cellsOf 129)) = [x0, x1, x2, x3][2]? := hg 2 _ rfl
 have h3 : DataW.trod enc Tryz.prog w 0 spare held n 3 (([c0, c1, c2, c3].drop 3).take (Tryz.prog.cellsOf 3)) = [x0, x1, x2, x3][3]? := hg 3 _ rfl
 rw [cellsInt] at h0 h3
 rw [cellsLin] at h1 h2
 simp only [List.drop_zero, List.take_succ_cons, List.take_zero, List.getElem?_cons_zero, List.drop_succ_cons, List.getElem?_cons_succ] at h0 h1 h2 h3
 obtain ⟨a, ha, _, wa⟩ := DataW.trod_int Tryz.underlying3 h0
 obtain ⟨d, hd, _, wd⟩ := DataW.trod_int Tryz.underlying3 h3
 obtain ⟨v1, t1, e1, r1⟩ := open_linc h1
 obtain ⟨v2, t2, e2, r2⟩ := open_linc h2
 simp only [List.cons.injEq, and_true] at ha hd e1 e2
 exact ⟨⟨a, t1, t2, d⟩, v1, v2, 0, w.heap.size, 0, w.heap.size, by rw [ha, hd, e1, e2], fits_of wa, fits_of wd, Nat.le_refl _, Nat.le_refl _, Nat.le_refl _, Nat.le_refl _, (fun h => by cases h), r1, r2⟩

set_option maxRecDepth 100000 in
theorem open_conc {fuel : Nat} {cs : List Value} {x : DataW H × List MemPlace} (h : DataW.trod enc Tryz.prog w 0 spare held fuel 135 cs = some x) :
  ∃ va vb vc y, cs = [va, vb, vc] ∧ Terms false 0 w.heap.size w va (ConC.a y) ∧ Terms false 0 w.heap.size w vb y.b ∧ Terms false 0 w.heap.size w vc y.c := by
 obtain ⟨xs, n, _, _, hl, hxs, hg⟩ := DataW.trod_struct Tryz.underlying135 h
 rw [cellsCon] at hl
 obtain ⟨c0, c1, c2, rfl⟩ := len3 hl
 obtain ⟨x0, x1, x2, rfl⟩ := len3 (show xs.length = 3 from hxs)
 have h0 : DataW.trod enc Tryz.prog w 0 spare held n 129 (([c0, c1, c2].drop 0).take (Tryz.prog.cellsOf 129)) = [x0, x1, x2][0]? := hg 0 _ rfl
 have h1 : DataW.trod enc Tryz.prog w 0 spare held n 129 (([c0, c1, c2].drop 1).take (Tryz.prog.cellsOf 129)) = [x0, x1, x2][1]? := hg 1 _ rfl
 have h2 : DataW.trod enc Tryz.prog w 0 spare held n 129 (([c0, c1, c2].drop 2).take (Tryz.prog.cellsOf 129)) = [x0, x1, x2][2]? := hg 2 _ rfl
 rw [cellsLin] at h0 h1 h2
 simp only [List.drop_zero, List.take_succ_cons, List.take_zero, List.getElem?_cons_zero, List.drop_succ_cons, List.getElem?_cons_succ] at h0 h1 h2
 obtain ⟨v0, t0, e0, r0⟩ := open_linc h0
 obtain ⟨v1, t1, e1, r1⟩ := open_linc h1
 obtain ⟨v2, t2, e2, r2⟩ := open_linc h2
 simp only [List.cons.injEq, and_true] at e0 e1 e2
 exact ⟨v0, v1, v2, ⟨t0, t1, t2⟩, by rw [e0, e1, e2], r0, r1, r2⟩
theorem open_conr {fuel : Nat} {cs : List Value} {x : DataW H × List MemPlace} (h : DataW.trod enc Tryz.prog w 0 spare held fuel 135 cs = some x) : ∃ y, conSh.rep false 0 w.heap.size w cs y := by
 obtain ⟨va, vb, vc, y, e, r0, r1, r2⟩ := open_conc h
 exact ⟨y, va, vb, vc, 0, w.heap.size, 0, w.heap.size, 0, w.heap.size, e, Nat.le_refl _, Nat.le_refl _, Nat.le_refl _, Nat.le_refl _, Nat.le_refl _, Nat.le_refl _, (fun h => by cases h), r0, r1, r2⟩
theorem open_linr {fuel : Nat} {cs : List Value} {x : DataW H × List MemPlace} (h : DataW.trod enc Tryz.prog w 0 spare held fuel 129 cs = some x) : ∃ y, Shape.lin.rep false 0 w.heap.size w cs y := by
 obtain ⟨v, ts, e, r⟩ := open_linc h
 exact ⟨ts, v, e, r⟩

set_option maxRecDepth 100000 in
/-- A system that came in. -/
theorem open_sys {b0 : Nat} {v : Value} {d : DataW H} {p : List MemPlace} (hv : Value.okWide Tryz.prog w .any b0 26 v) (h : DataW.Trod enc Tryz.prog w 0 spare held 26 v d p) :
  ∃ vi vo vh vc s, v = .agg #[vi, vo, vh, vc] ∧ SysR false 0 w.heap.size w vi vo vh vc s := by
 obtain ⟨cs, rfl, hsz⟩ := okWide_struct Tryz.underlying26 hv
 obtain ⟨l⟩ := cs
 rw [cellsSys] at hsz
 obtain ⟨c0, c1, c2, c3, rfl⟩ := len4 (show l.length = 4 from hsz)
 obtain ⟨fuel, hf⟩ := h
 obtain ⟨xs, n, _, _, hl, hxs, hg⟩ := DataW.trod_struct Tryz.underlying26 hf
 obtain ⟨x0, x1, x2, x3, rfl⟩ := len4 (show xs.length = 4 from hxs)
 have h0 : DataW.trod enc Tryz.prog w 0 spare held n 3 (([c0, c1, c2, c3].drop 0).take (Tryz.prog.cellsOf 3)) = [x0, x1, x2, x3][0]? := hg 0 _ rfl
 have h1 : DataW.trod enc Tryz.prog w 0 spare held n 22 (([c0, c1, c2, c3].drop 1).take (Tryz.prog.cellsOf 22)) = [x0, x1, x2, x3][1]? := hg 1 _ rfl
 have h2 : DataW.trod enc Tryz.prog w 0 spare held n 23 (([c0, c1, c2, c3].drop 2).take (Tryz.prog.cellsOf 23)) = [x0, x1, x2, x3][2]? := hg 2 _ rfl
 have h3 : DataW.trod enc Tryz.prog w 0 spare held n 24 (([c0, c1, c2, c3].drop 3).take (Tryz.prog.cellsOf 24)) = [x0, x1, x2, x3][3]? := hg 3 _ rfl
 rw [cellsInt] at h0
 rw [cellsLins] at h1
 rw [cellsHints] at h2
 rw [cellsCons] at h3
 simp only [List.drop_zero, List.take_succ_cons, List.take_zero, List.getElem?_cons_zero, List.drop_succ_cons, List.getElem?_cons_succ] at h0 h1 h2 h3
 obtain ⟨a, ha, _, wa⟩ := DataW.trod_int Tryz.underlying3 h0
 obtain ⟨v1, t1, e1, r1⟩ := open_rows (E := Shape.lin) Tryz.underlying22 cellsLin (by decide) open_linr h1
 obtain ⟨v2, t2, e2, r2⟩ := open_rows (E := hintSh) Tryz.underlying23 cellsHint (by decide) open_hintc h2
 obtain ⟨v3, t3, e3, r3⟩ := open_rows (E := conSh) Tryz.underlying24 cellsCon (by decide) open_conr h3
 simp only [List.cons.injEq, and_true] at ha e1 e2 e3
 exact ⟨_, v1, v2, v3, ⟨a, t1, t2, t3⟩, by rw [ha, e1, e2, e3], rfl, fits_of wa, 0, w.heap.size, 0, w.heap.size, 0, w.heap.size, Nat.le_refl _, Nat.le_refl _, Nat.le_refl _, Nat.le_refl _, Nat.le_refl _, Nat.le_refl _, (fun h => by cases h), r1, r2, r3⟩
set_option maxRecDepth 100000 in
/-- A slice of combinations that came in. -/
theorem open_lins {b0 : Nat} {v : Value} {d : DataW H} {p : List MemPlace} (hv : Value.okWide Tryz.prog w .any b0 22 v) (h : DataW.Trod enc Tryz.prog w 0 spare held 22 v d p) :
  ∃ u xs, v = u ∧ LinS false 0 w.heap.size w u xs := by
 obtain ⟨a, len, cap, rfl⟩ := okWide_slice Tryz.underlying22 hv
 obtain ⟨fuel, hf⟩ := h
 obtain ⟨u, xs, e, r⟩ := open_rows (E := Shape.lin) Tryz.underlying22 cellsLin (by decide) open_linr hf
 simp [Value.cells] at e
 exact ⟨u, xs, e, r⟩
set_option maxRecDepth 100000 in
/-- A constraint that came in. -/
theorem open_con {b0 : Nat} {v : Value} {d : DataW H} {p : List MemPlace} (hv : Value.okWide Tryz.prog w .any b0 135 v) (h : DataW.Trod enc Tryz.prog w 0 spare held 135 v d p) :
  ∃ va vb vc y, v = .agg #[va, vb, vc] ∧ Terms false 0 w.heap.size w va (ConC.a y) ∧ Terms false 0 w.heap.size w vb y.b ∧ Terms false 0 w.heap.size w vc y.c := by
 obtain ⟨cs, rfl, hsz⟩ := okWide_struct Tryz.underlying135 hv
 obtain ⟨l⟩ := cs
 obtain ⟨fuel, hf⟩ := h
 obtain ⟨va, vb, vc, y, e, r⟩ := open_conc hf
 simp [Value.cells] at e
 subst e
 exact ⟨va, vb, vc, y, rfl, r⟩
end
end Go.Proofs.YthipgpbapdambaaGreat.L
