/- From what the frame of a law tells of an automaton or of bytes that came in to what the walks ask. -/
import Derived.Test.YtcinpoeapbgnhaaOpenN
import Derived.Test.YtcinpoeapbgnhaaByts2
import Derived.Test.YtcinpoeapbgnhaaDfa
namespace Go.Proofs.Ytcinpoeapbgnhaa.L
open Go.RowKit Go.Proofs.Ytcinpoeapbgnhaa.S Go.ChangeShapes Go.WideShapes Go.Deep Go.OpenShut
set_option linter.unusedVariables false
set_option linter.unusedSimpArgs false

theorem cellsBool : Try.prog.cellsOf 4 = 1 := by kernel_rfl
theorem cellsByte : Try.prog.cellsOf 5 = 1 := by kernel_rfl
theorem cellsIntss : Try.prog.cellsOf 22 = 1 := by kernel_rfl
theorem cellsBools : Try.prog.cellsOf 23 = 1 := by kernel_rfl
theorem cellsDfa : Try.prog.cellsOf 25 = 2 := by kernel_rfl
def boolSh : Shape Bool where
  wd := 1
  rep o l h w cs x := cs = [.bool x]
  len h := by subst h; rfl
  agree h s := h
  mono h a b := h
def byteSh : Shape Int where
  wd := 1
  rep o l h w cs x := cs = [.int .u8 x] ∧ 0 ≤ x ∧ x ≤ 255
  len h := by rw [h.1]; rfl
  agree h s := h
  mono h a b := h
theorem Bools.of_row {l h : Nat} {w : World} {v : Value} {xs : List Bool} (t : (Shape.row boolSh).rep false l h w [v] xs) : Bools false l h w v xs := by
  obtain ⟨a, cap, e, h1, h2, h4⟩ := t
  simp only [List.cons.injEq, and_true] at e
  refine ⟨a, cap, e, h1, h2, ?_⟩
  rcases h4 with h4 | ⟨b, off, ea, hl, hlt, hf, C, L, H, hd, hc⟩
  · exact .inl h4
  · refine .inr ⟨b, off, ea, hl, hlt, (fun h => by cases h), fun j x hj => ?_⟩
    obtain ⟨a1, a2, a3, a4⟩ := hc j x hj
    have := a3 0 (.bool x) (by rw [show C j = [.bool x] from a4]; rfl)
    rwa [show boolSh.wd = 1 from rfl, Nat.mul_one, Nat.add_zero] at this
theorem Byts.of_row {l h : Nat} {w : World} {v : Value} {xs : List Int} (t : (Shape.row byteSh).rep false l h w [v] xs) : Byts false l h w v xs ∧ bytesIn xs := by
  obtain ⟨a, cap, e, h1, h2, h4⟩ := t
  simp only [List.cons.injEq, and_true] at e
  rcases h4 with h4 | ⟨b, off, ea, hl, hlt, hf, C, L, H, hd, hc⟩
  · exact ⟨⟨a, cap, e, h1, h2, trivial, .inl h4⟩, by rw [h4]; intro x hx; cases hx⟩
  · refine ⟨⟨a, cap, e, h1, h2, trivial, .inr ⟨b, off, ea, hl, hlt, (fun h => by cases h), fun j x hj => ?_⟩⟩, fun x hx => ?_⟩
    · obtain ⟨a1, a2, a3, a4⟩ := hc j x hj
      have := a3 0 (.int .u8 x) (by rw [show C j = [.int .u8 x] from a4.1]; rfl)
      rwa [show byteSh.wd = 1 from rfl, Nat.mul_one, Nat.add_zero] at this
    · obtain ⟨j, hj⟩ := List.getElem?_of_mem hx
      obtain ⟨a1, a2, a3, a4⟩ := hc j x hj
      exact a4.2
section
variable {H : Type} {enc : TypeId × Value → H} {w : World} {spare : Nat → Bool} {held : Bool}
theorem open_boolr {fuel : Nat} {cs : List Value} {x : DataW H × List MemPlace} (h : DataW.trod enc Try.prog w 0 spare held fuel 4 cs = some x) : ∃ y, boolSh.rep false 0 w.heap.size w cs y := by
  obtain ⟨b, h1, h2⟩ := DataW.trod_bool Try.underlying4 h
  exact ⟨b, h1⟩
theorem open_byter {fuel : Nat} {cs : List Value} {x : DataW H × List MemPlace} (h : DataW.trod enc Try.prog w 0 spare held fuel 5 cs = some x) : ∃ y, byteSh.rep false 0 w.heap.size w cs y := by
  obtain ⟨b, h1, _, h2⟩ := DataW.trod_int Try.underlying5 h
  exact ⟨b, h1, bounds_u8 h2⟩
set_option maxRecDepth 100000 in
theorem open_bytes {b0 : Nat} {v : Value} {d : DataW H} {p : List MemPlace} (hv : Value.okWide Try.prog w .any b0 38 v) (h : DataW.Trod enc Try.prog w 0 spare held 38 v d p) :
    ∃ u xs, v = u ∧ Byts false 0 w.heap.size w u xs ∧ bytesIn xs := by
  obtain ⟨a, len, cap, rfl⟩ := okWide_slice Try.underlying38 hv
  obtain ⟨fuel, hf⟩ := h
  obtain ⟨u, xs, e, r⟩ := open_rows (E := byteSh) Try.underlying38 cellsByte (by decide) open_byter hf
  simp [Value.cells] at e
  exact ⟨u, xs, e, Byts.of_row r⟩
set_option maxRecDepth 100000 in
theorem open_dfa {b0 : Nat} {v : Value} {d : DataW H} {p : List MemPlace} (hv : Value.okWide Try.prog w .any b0 25 v) (h : DataW.Trod enc Try.prog w 0 (fun _ => true) held 25 v d p) :
    ∃ vn va x, v = .agg #[vn, va] ∧ DfaR false 0 w.heap.size w vn va x := by
  obtain ⟨cs, rfl, hsz⟩ := okWide_struct Try.underlying25 hv
  obtain ⟨l⟩ := cs
  rw [cellsDfa] at hsz
  obtain ⟨c0, c1, rfl⟩ := len2 (show l.length = 2 from hsz)
  obtain ⟨fuel, hf⟩ := h
  obtain ⟨xs, n, _, _, hl, hxs, hg⟩ := DataW.trod_struct Try.underlying25 hf
  obtain ⟨x0, x1, rfl⟩ := len2 (show xs.length = 2 from hxs)
  have h0 : DataW.trod enc Try.prog w 0 (fun _ => true) held n 22 (([c0, c1].drop 0).take (Try.prog.cellsOf 22)) = [x0, x1][0]? := hg 0 _ rfl
  have h1 : DataW.trod enc Try.prog w 0 (fun _ => true) held n 23 (([c0, c1].drop 1).take (Try.prog.cellsOf 23)) = [x0, x1][1]? := hg 1 _ rfl
  rw [cellsIntss] at h0
  rw [cellsBools] at h1
  simp only [List.drop_zero, List.take_succ_cons, List.take_zero, List.getElem?_cons_zero, List.drop_succ_cons, List.getElem?_cons_succ] at h0 h1
  obtain ⟨v1, t1, e1, r1⟩ := open_rows (E := numsSh) Try.underlying22 cellsInts (by decide) open_numsr h0
  obtain ⟨v2, t2, e2, r2⟩ := open_rows (E := boolSh) Try.underlying23 cellsBool (by decide) open_boolr h1
  simp only [List.cons.injEq, and_true] at e1 e2
  exact ⟨v1, v2, ⟨t1, t2⟩, by rw [e1, e2], 0, w.heap.size, 0, w.heap.size, Nat.le_refl _, Nat.le_refl _, Nat.le_refl _, Nat.le_refl _, (fun h => by cases h), r1, Bools.of_row r2⟩
end
end Go.Proofs.Ytcinpoeapbgnhaa.L
