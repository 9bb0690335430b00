/- A slice of slices of numbers that came in. -/
import Derived.Test.YtcinpoeapbgnhaaB10
import Derived.Test.YtcinpoeapbgnhaaNumS
namespace Go.Proofs.Ytcinpoeapbgnhaa.L
open Go.RowKit Go.Proofs.Ytcinpoeapbgnhaa.S Go.ChangeShapes Go.WideShapes Go.Deep Go.OpenShut
set_option linter.unusedVariables false
set_option linter.unusedSimpArgs false

theorem cellsInts : Try.prog.cellsOf 33 = 1 := by kernel_rfl
section
variable {H : Type} {enc : TypeId × Value → H} {w : World} {spare : Nat → Bool} {held : Bool}
theorem Ints.nums0 {lim : Nat} {v : Value} {xs : List Int} (t : Ints lim w v xs) : Nums false 0 lim w v xs := by
  obtain ⟨a, cap, rfl, h1, h2, h3, h4⟩ := t
  refine ⟨a, cap, rfl, h1, h2, h3, ?_⟩
  rcases h4 with h4 | ⟨b, off, e, hlt, hc⟩
  · exact .inl h4
  · exact .inr ⟨b, off, e, Nat.zero_le _, hlt, (fun h => by cases h), hc⟩
theorem open_numsr {fuel : Nat} {cs : List Value} {x : DataW H × List MemPlace} (h : DataW.trod enc Try.prog w 0 (fun _ => true) held fuel 33 cs = some x) : ∃ y, numsSh.rep false 0 w.heap.size w cs y := by
  rcases open_ints Try.underlying33 Try.underlying3 (by kernel_rfl) h with ⟨hcs, _⟩ | ⟨x, l, c, zs, hcs, _, hl, hm, hz, _, hcell, hwz⟩
  · exact ⟨[], _, hcs, Nums.nil _ _ _ _⟩
  · exact ⟨_, _, hcs, Ints.nums0 (ints_of (.inr ⟨_, rfl, hl, hm, by simpa using hz, hcell, hwz⟩))⟩
set_option maxRecDepth 100000 in
theorem open_intss {b0 : Nat} {v : Value} {d : DataW H} {p : List MemPlace} (hv : Value.okWide Try.prog w .any b0 22 v) (h : DataW.Trod enc Try.prog w 0 (fun _ => true) held 22 v d p) :
    ∃ u xs, v = u ∧ IntSS false 0 w.heap.size w u xs := by
  obtain ⟨a, len, cap, rfl⟩ := okWide_slice Try.underlying22 hv
  obtain ⟨fuel, hf⟩ := h
  obtain ⟨u, xs, e, r⟩ := open_rows (E := numsSh) Try.underlying22 cellsInts (by decide) open_numsr hf
  simp [Value.cells] at e
  exact ⟨u, xs, e, r⟩
end
end Go.Proofs.Ytcinpoeapbgnhaa.L
