/- B10: Open OpenS -/
import Derived.Test.YtplphfgacomhkaaB1
import Derived.Deep.Slices
import Derived.Deep.Fields
import Derived.ChangeSame
import Derived.OpenShut
set_option linter.unusedVariables false
set_option linter.unusedSimpArgs false
/- From what the frame of a law tells of a linear combination that came in to what the walks ask. -/
namespace Go.Proofs.Ytplphfgacomhkaa.L
open Go.RowKit Go.Proofs.Ytplphfgacomhkaa.S Go.ChangeShapes Go.WideShapes Go.Deep Go.OpenShut
set_option linter.unusedVariables false
theorem cellsInt : Try.prog.cellsOf 3 = 1 := by kernel_rfl

theorem len1 {α : Type} {l : List α} (h : l.length = 1) : ∃ a, l = [a] := by
  match l, h with
  | [a], _ => exact ⟨a, rfl⟩
theorem len2 {α : Type} {l : List α} (h : l.length = 2) : ∃ a b, l = [a, b] := by
  match l, h with
  | [a, b], _ => exact ⟨a, b, rfl⟩

section
variable {H : Type} {enc : TypeId × Value → H} {w : World} {spare : Nat → Bool} {held : Bool}

theorem fits_of {n : Int} (h : (Lit.int .i64 n).wf = true) : Fits n := bounds_i64 h

theorem ints_of {a : Option Addr} {len cap : Nat} {zs : List Int}
    (h : (a = none ∧ len = 0 ∧ cap = 0 ∧ zs = []) ∨ ∃ x, a = some x ∧ len ≤ cap ∧ cap ≤ maxLen ∧ zs.length = cap ∧ (∀ i, i < zs.length → w.cell? (x.add i) = some (.int .i64 (zs.getD i 0))) ∧ ∀ n ∈ zs, (Lit.int .i64 n).wf = true) : Ints w.heap.size w (.slice a len cap) (zs.take len) := by
  rcases h with ⟨rfl, rfl, rfl, rfl⟩ | ⟨x, rfl, hl, hm, hz, hc, hw⟩
  · exact ⟨none, 0, rfl, Nat.le_refl _, by omega, by simp, .inl rfl⟩
  · unfold maxLen at hm
    have hlen : (zs.take len).length = len := by simp; omega
    refine ⟨some x, cap, by rw [hlen], by omega, by omega, fun n hn => bounds_i64 (hw n (List.mem_of_mem_take hn)), ?_⟩
    by_cases h : len = 0
    · exact .inl (by rw [h]; rfl)
    · obtain ⟨b, off, rfl, hcc⟩ := ints_at hc (by omega)
      refine .inr ⟨b, off, rfl, World.block_lt_of_cell? w ⟨b, off + 0, none⟩ (hcc 0 (by omega)), fun j x hx => ?_⟩
      have hj : j < len := by have := (List.getElem?_eq_some_iff.1 hx).1; omega
      rw [List.getElem?_take, if_pos hj] at hx
      rw [hcc j (by omega), List.getD_eq_getElem?_getD, hx]
      rfl

set_option maxRecDepth 100000 in
/-- A slice of numbers that came in. -/
theorem open_ints' {b0 : Nat} {v : Value} {d : DataW H} {p : List MemPlace} (hv : Value.okWide Try.prog w .any b0 24 v) (h : DataW.Trod enc Try.prog w 0 (fun _ => true) held 24 v d p) :
    ∃ u xs, v = u ∧ Ints w.heap.size w u xs := by
  obtain ⟨a, len, cap, rfl⟩ := okWide_slice Try.underlying24 hv
  obtain ⟨fuel, hf⟩ := h
  rcases open_ints Try.underlying24 Try.underlying3 (by kernel_rfl) hf with ⟨hcs, _⟩ | ⟨x, l, c, zs, hcs, _, hl, hm, hz, _, hcell, hwz⟩
  · simp [Value.cells] at hcs
    obtain ⟨rfl, rfl, rfl⟩ := hcs
    exact ⟨_, _, rfl, ints_of (zs := []) (.inl ⟨rfl, rfl, rfl, rfl⟩)⟩
  · simp [Value.cells] at hcs
    obtain ⟨rfl, rfl, rfl⟩ := hcs
    exact ⟨_, _, rfl, ints_of (.inr ⟨_, rfl, hl, hm, by simpa using hz, hcell, hwz⟩)⟩
end
end Go.Proofs.Ytplphfgacomhkaa.L

/- From what the frame of a law tells of a system or a constraint that came in to what the walks ask. -/
namespace Go.Proofs.Ytplphfgacomhkaa.L
open Go.RowKit Go.Proofs.Ytplphfgacomhkaa.S Go.ChangeShapes Go.WideShapes Go.Deep Go.OpenShut
set_option linter.unusedVariables false
theorem len3 {α : Type} {l : List α} (h : l.length = 3) : ∃ a b c, l = [a, b, c] := by
  match l, h with
  | [a, b, c], _ => exact ⟨a, b, c, rfl⟩
theorem len4 {α : Type} {l : List α} (h : l.length = 4) : ∃ a b c d, l = [a, b, c, d] := by
  match l, h with
  | [a, b, c, d], _ => exact ⟨a, b, c, d, rfl⟩

section
variable {H : Type} {enc : TypeId × Value → H} {w : World} {spare : Nat → Bool} {held : Bool}

theorem open_rows {α : Type} {E : Shape α} {t e : TypeId} (ht : Try.prog.underlying t = some (.slice e)) (hC : Try.prog.cellsOf e = E.wd) (hpos : 0 < E.wd)
    (hE : ∀ {fuel : Nat} {cs : List Value} {x : DataW H × List MemPlace}, DataW.trod enc Try.prog w 0 spare held fuel e cs = some x → ∃ y, E.rep false 0 w.heap.size w cs y)
    {fuel : Nat} {cs : List Value} {x : DataW H × List MemPlace} (h : DataW.trod enc Try.prog w 0 spare held fuel t cs = some x) :
    ∃ v ys, cs = [v] ∧ (Shape.row E).rep false 0 w.heap.size w [v] ys := by
  rcases open_slice ht h with ⟨hcs, _⟩ | ⟨a, len, cap, m, n, D, Pl, hcs, _, hl, hm, hmm, _, hi⟩
  · exact ⟨_, [], hcs, Shape.row_nil _ _ _ _⟩
  · rw [hC] at hi
    have hlm : len ≤ m := by rw [hmm]; split <;> omega
    have hf : ∀ i : Fin len, ∃ p : List Value × α, E.rep false 0 w.heap.size w p.1 p.2 ∧ ∀ f c, p.1[f]? = some c → w.cell? (a.add (i.1 * E.wd + f)) = some c := by
      intro i
      obtain ⟨cs', hc, ht'⟩ := hi i.1 (by omega)
      obtain ⟨y, hy⟩ := hE ht'
      obtain ⟨_, _, hat⟩ := World.cells?_some hc
      refine ⟨(cs', y), hy, fun f c hfc => ?_⟩
      have hfl : f < E.wd := by rw [← E.len hy]; exact (List.getElem?_eq_some_iff.1 hfc).1
      have h0 := hat f hfl
      rw [Go.Deep.add_add] at h0
      rw [h0]; exact hfc
    obtain ⟨F, fs⟩ := Classical.skolem.1 hf
    clear hf
    refine ⟨_, List.ofFn (fun i => (F i).2), hcs, ?_⟩
    unfold maxLen at hm
    refine ⟨some a, cap, by simp, by simpa using hl, by omega, ?_⟩
    by_cases h0 : len = 0
    · subst h0; exact .inl (by simp)
    · have hl0 : 0 < (F ⟨0, by omega⟩).1.length := by rw [E.len (fs ⟨0, by omega⟩).1]; exact hpos
      have c0 := (fs ⟨0, by omega⟩).2 0 _ (List.getElem?_eq_getElem hl0)
      obtain ⟨b, off, spot⟩ := a
      have hspot : spot = none := by simpa [Addr.add] using World.cell?_spot c0
      subst hspot
      rw [Go.WideShapes.add_plain] at c0
      refine .inr ⟨b, off, rfl, Nat.zero_le _, World.block_lt_of_cell? w _ c0, (fun h => by cases h), fun j => if hj : j < len then (F ⟨j, hj⟩).1 else [], fun _ => 0, fun _ => w.heap.size, (fun h => by cases h), fun j y hj => ?_⟩
      have hjl : j < len := by have := (List.getElem?_eq_some_iff.1 hj).1; simpa using this
      have e : y = (F ⟨j, hjl⟩).2 := by
        have := (List.getElem?_eq_some_iff.1 hj).2
        rw [← this]; simp
      subst e
      simp only [hjl, dite_true]
      refine ⟨Nat.le_refl _, Nat.le_refl _, fun f c hfc => ?_, (fs ⟨j, hjl⟩).1⟩
      have := (fs ⟨j, hjl⟩).2 f c hfc
      rw [Go.WideShapes.add_plain] at this
      rw [Nat.add_assoc]
      exact this

end
end Go.Proofs.Ytplphfgacomhkaa.L
