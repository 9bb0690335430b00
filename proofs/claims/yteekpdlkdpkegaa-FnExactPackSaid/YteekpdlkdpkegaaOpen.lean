/- From what the frame of a law tells of a linear combination that came in to what the walks ask. -/
import Derived.Test.YteekpdlkdpkegaaTerms
import Derived.Deep.Slices
import Derived.Deep.Fields
import Derived.ChangeSame
import Derived.OpenShut
namespace Go.Proofs.Yteekpdlkdpkegaa.L
open Go.RowKit Go.Proofs.Yteekpdlkdpkegaa.S Go.ChangeShapes Go.WideShapes Go.Deep Go.OpenShut
set_option linter.unusedVariables false
set_option linter.unusedSimpArgs false

theorem cellsTerm : Try.prog.cellsOf 143 = 2 := by kernel_rfl
theorem cellsLin : Try.prog.cellsOf 29 = 1 := by kernel_rfl
theorem cellsTerms : Try.prog.cellsOf 27 = 1 := by kernel_rfl
theorem cellsInt : Try.prog.cellsOf 3 = 1 := by kernel_rfl

theorem len1 {α : Type} {l : List α} (h : l.length = 1) : ∃ a, l = [a] := by
  match l, h with
  | [a], _ => exact ⟨a, rfl⟩
theorem len2 {α : Type} {l : List α} (h : l.length = 2) : ∃ a b, l = [a, b] := by
  match l, h with
  | [a, b], _ => exact ⟨a, b, rfl⟩

section
variable {H : Type} {enc : TypeId × Value → H} {w : World} {spare : Nat → Bool} {held : Bool}

theorem fits_of {n : Int} (h : (Lit.int .i64 n).wf = true) : Fits n := bounds_i64 h

set_option maxRecDepth 100000 in
theorem open_term {fuel : Nat} {cs : List Value} {x : DataW H × List MemPlace} (h : DataW.trod enc Try.prog w 0 spare held fuel 143 cs = some x) :
    ∃ a b : Int, cs = [.int .i64 a, .int .i64 b] ∧ Fits a ∧ Fits b := by
  obtain ⟨xs, n, _, _, hl, hxs, hf⟩ := DataW.trod_struct Try.underlying143 h
  rw [cellsTerm] at hl
  obtain ⟨c0, c1, rfl⟩ := len2 hl
  obtain ⟨x0, x1, rfl⟩ := len2 (show xs.length = 2 from hxs)
  have h0 : DataW.trod enc Try.prog w 0 spare held n 3 (([c0, c1].drop 0).take (Try.prog.cellsOf 3)) = [x0, x1][0]? := hf 0 _ rfl
  have h1 : DataW.trod enc Try.prog w 0 spare held n 3 (([c0, c1].drop 1).take (Try.prog.cellsOf 3)) = [x0, x1][1]? := hf 1 _ rfl
  rw [cellsInt] at h0 h1
  simp only [List.drop_zero, List.take_succ_cons, List.take_zero, List.getElem?_cons_zero, List.drop_succ_cons, List.getElem?_cons_succ] at h0 h1
  obtain ⟨a, ha, _, wa⟩ := DataW.trod_int Try.underlying3 h0
  obtain ⟨b, hb, _, wb⟩ := DataW.trod_int Try.underlying3 h1
  simp only [List.cons.injEq, and_true] at ha hb
  exact ⟨a, b, by rw [ha, hb], fits_of wa, fits_of wb⟩

set_option maxRecDepth 100000 in
theorem open_terms {fuel : Nat} {cs : List Value} {x : DataW H × List MemPlace} (h : DataW.trod enc Try.prog w 0 spare held fuel 27 cs = some x) :
    ∃ v ts, cs = [v] ∧ Terms false 0 w.heap.size w v ts := by
  rcases open_slice Try.underlying27 h with ⟨hcs, _⟩ | ⟨a, len, cap, m, n, D, Pl, hcs, _, hl, hm, hmm, _, hi⟩
  · exact ⟨_, [], hcs, Terms.nil _ _ _ _⟩
  · rw [cellsTerm] at hi
    have hlm : len ≤ m := by rw [hmm]; split <;> omega
    have key : ∀ i, i < len → ∃ x y : Int, Fits x ∧ Fits y ∧ w.cell? (a.add (i * 2)) = some (.int .i64 x) ∧ w.cell? (a.add (i * 2 + 1)) = some (.int .i64 y) := by
      intro i hil
      obtain ⟨cs', hc, ht'⟩ := hi i (by omega)
      obtain ⟨x, y, rfl, fx, fy⟩ := open_term ht'
      obtain ⟨_, _, hat⟩ := World.cells?_some hc
      have h0 := hat 0 (by omega)
      have h1 := hat 1 (by omega)
      rw [Go.Deep.add_add] at h0 h1
      exact ⟨x, y, fx, fy, by simpa using h0, by simpa using h1⟩
    have hf : ∀ i : Fin len, ∃ t : T, Fits t.1 ∧ Fits t.2 ∧ w.cell? (a.add (i.1 * 2)) = some (.int .i64 t.1) ∧ w.cell? (a.add (i.1 * 2 + 1)) = some (.int .i64 t.2) := fun i => by
      obtain ⟨x, y, h⟩ := key i.1 i.2
      exact ⟨(x, y), h⟩
    obtain ⟨f, fs⟩ := Classical.skolem.1 hf
    clear hf key
    refine ⟨_, List.ofFn f, hcs, ?_⟩
    unfold maxLen at hm
    refine ⟨some a, cap, by simp, by simpa using hl, by omega, ?_, ?_⟩
    · intro t ht
      obtain ⟨i, rfl⟩ := List.mem_ofFn.1 ht
      exact ⟨(fs i).1, (fs i).2.1⟩
    · by_cases h0 : len = 0
      · subst h0; exact .inl (by simp)
      · have c0 := (fs ⟨0, by omega⟩).2.2.1
        obtain ⟨b, off, spot⟩ := a
        have hspot : spot = none := by simpa [Addr.add] using World.cell?_spot c0
        subst hspot
        rw [Go.WideShapes.add_plain] at c0
        refine .inr ⟨b, off, rfl, Nat.zero_le _, World.block_lt_of_cell? w _ c0, (fun h => by cases h), fun j t hj => ?_⟩
        have hjl : j < len := by have := (List.getElem?_eq_some_iff.1 hj).1; simpa using this
        have e : t = f ⟨j, hjl⟩ := by
          have := (List.getElem?_eq_some_iff.1 hj).2
          rw [← this]; simp
        subst e
        have := (fs ⟨j, hjl⟩).2.2
        rw [Go.WideShapes.add_plain, Go.WideShapes.add_plain] at this
        rw [Nat.add_assoc]
        exact this

set_option maxRecDepth 100000 in
/-- A linear combination that came in. -/
theorem open_lin {b0 : Nat} {v : Value} {d : DataW H} {p : List MemPlace} (hv : Value.okWide Try.prog w .any b0 29 v) (h : DataW.Trod enc Try.prog w 0 spare held 29 v d p) :
    ∃ u ts, v = .agg #[u] ∧ Terms false 0 w.heap.size w u ts := by
  obtain ⟨cs, rfl, hsz⟩ := okWide_struct Try.underlying29 hv
  obtain ⟨l⟩ := cs
  rw [cellsLin] at hsz
  obtain ⟨c0, rfl⟩ := len1 (show l.length = 1 from hsz)
  obtain ⟨fuel, hf⟩ := h
  obtain ⟨xs, n, _, _, hl, hxs, hg⟩ := DataW.trod_struct Try.underlying29 hf
  obtain ⟨x0, rfl⟩ := len1 (show xs.length = 1 from hxs)
  have h0 : DataW.trod enc Try.prog w 0 spare held n 27 (([c0].drop 0).take (Try.prog.cellsOf 27)) = [x0][0]? := hg 0 _ rfl
  rw [cellsTerms] at h0
  simp only [List.drop_zero, List.take_succ_cons, List.take_zero, List.getElem?_cons_zero] at h0
  obtain ⟨u, ts, hu, ht⟩ := open_terms h0
  simp only [List.cons.injEq, and_true] at hu
  subst hu
  exact ⟨_, ts, rfl, ht⟩

theorem ints_of {a : Option Addr} {len cap : Nat} {zs : List Int}
    (h : (a = none ∧ len = 0 ∧ cap = 0 ∧ zs = []) ∨ ∃ x, a = some x ∧ len ≤ cap ∧ cap ≤ maxLen ∧ zs.length = cap ∧ (∀ i, i < zs.length → w.cell? (x.add i) = some (.int .i64 (zs.getD i 0))) ∧ ∀ n ∈ zs, (Lit.int .i64 n).wf = true) : Ints w.heap.size w (.slice a len cap) (zs.take len) := by
  rcases h with ⟨rfl, rfl, rfl, rfl⟩ | ⟨x, rfl, hl, hm, hz, hc, hw⟩
  · exact ⟨none, 0, rfl, Nat.le_refl _, by omega, by simp, .inl rfl⟩
  · unfold maxLen at hm
    have hlen : (zs.take len).length = len := by simp; omega
    refine ⟨some x, cap, by rw [hlen], by omega, by omega, fun n hn => bounds_i64 (hw n (List.mem_of_mem_take hn)), ?_⟩
    by_cases h : len = 0
    · exact .inl (by rw [h]; rfl)
    · obtain ⟨b, off, rfl, hcc⟩ := ints_at hc (by omega)
      refine .inr ⟨b, off, rfl, World.block_lt_of_cell? w ⟨b, off + 0, none⟩ (hcc 0 (by omega)), fun j x hx => ?_⟩
      have hj : j < len := by have := (List.getElem?_eq_some_iff.1 hx).1; omega
      rw [List.getElem?_take, if_pos hj] at hx
      rw [hcc j (by omega), List.getD_eq_getElem?_getD, hx]
      rfl

end
end Go.Proofs.Yteekpdlkdpkegaa.L
