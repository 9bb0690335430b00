/- Sums of lists and dot products: the program's functions. -/
import Derived.Test.YtoeklalhbkdjnaaB1
import Derived.Test.YtoeklalhbkdjnaaInv
namespace Go.Proofs.Ytoeklalhbkdjnaa.S
open Go.RowKit
set_option linter.unusedVariables false

def fld (x : Int) : Prop := 0 ≤ x ∧ x < 2147483647
instance (x : Int) : Decidable (fld x) := by unfold fld; infer_instance

/-- The sum of a list of numbers of the field; -1 where one is none. -/
def fsum (xs : List Int) : Int := if ∀ x ∈ xs, fld x then xs.sum % 2147483647 else -1

/-- Behind k rounds: the first k are numbers of the field, and s is their sum. -/
def SumInv (xs : List Int) (k : Nat) (s : Int) : Prop := (∀ x ∈ xs.take k, fld x) ∧ s = (xs.take k).sum % 2147483647

theorem SumInv.start (xs : List Int) : SumInv xs 0 0 := by unfold SumInv; simp
theorem SumInv.step {xs : List Int} {k : Nat} {s x : Int} (h : SumInv xs k s) (hx : xs[k]? = some x) (hf : fld x) : SumInv xs (k + 1) ((s + x) % 2147483647) := by
  obtain ⟨h1, h2⟩ := h
  unfold SumInv
  rw [take_step hx]
  refine ⟨fun y hy => ?_, ?_⟩
  · rcases List.mem_append.1 hy with hy | hy
    · exact h1 y hy
    · simp at hy; rw [hy]; exact hf
  · rw [h2, List.sum_append]; simp
theorem SumInv.stop {xs : List Int} {k : Nat} {s : Int} (h : SumInv xs k s) (hk : ¬ k < xs.length) : fsum xs = s := by
  obtain ⟨h1, h2⟩ := h
  rw [take_end hk] at h1 h2
  unfold fsum
  rw [if_pos h1, h2]
theorem fsum_bad {xs : List Int} {k : Nat} {x : Int} (hx : xs[k]? = some x) (hf : ¬ fld x) : fsum xs = -1 := by
  unfold fsum
  rw [if_neg (fun h => hf (h x (List.mem_of_getElem? hx)))]

theorem fok_yes (n : Int) (w : World) (h0 : 0 ≤ n) (h1 : n < 2147483647) :
    Calls Try.prog 43 #[.int .i64 n] w fun e w' => e = .returned (.bool true) ∧ w = w' :=
  (fok_impl n w).mono fun e w' ⟨he, hw⟩ => ⟨by rw [he]; exact ret_bool (by simp; omega), hw⟩
theorem fok_no (n : Int) (w : World) (h : ¬ fld n) :
    Calls Try.prog 43 #[.int .i64 n] w fun e w' => e = .returned (.bool false) ∧ w = w' :=
  (fok_impl n w).mono fun e w' ⟨he, hw⟩ => ⟨by rw [he]; exact ret_bool (by unfold fld at h; simp; omega), hw⟩

/-- The dot product: -1 where the lengths differ or one is no number of the field. -/
def fdot (xs ys : List Int) : Int := if xs.length = ys.length ∧ (∀ x ∈ xs, fld x) ∧ ∀ y ∈ ys, fld y then ((xs.zip ys).map fun p => p.1 * p.2).sum % 2147483647 else -1

def DotInv (xs ys : List Int) (k : Nat) (s : Int) : Prop := (∀ x ∈ xs.take k, fld x) ∧ (∀ y ∈ ys.take k, fld y) ∧ s = (((xs.zip ys).map fun p => p.1 * p.2).take k).sum % 2147483647

theorem DotInv.start (xs ys : List Int) : DotInv xs ys 0 0 := by unfold DotInv; simp
theorem DotInv.step {xs ys : List Int} {k : Nat} {s x y : Int} (h : DotInv xs ys k s) (hx : xs[k]? = some x) (hy : ys[k]? = some y) (hf : fld x) (hg : fld y) : DotInv xs ys (k + 1) ((s + x * y % 2147483647) % 2147483647) := by
  obtain ⟨h1, h2, h3⟩ := h
  have hz : ((xs.zip ys).map fun p => p.1 * p.2)[k]? = some (x * y) := by
    rw [List.getElem?_map, (List.getElem?_zip_eq_some (z := (x, y))).2 ⟨hx, hy⟩]; rfl
  unfold DotInv
  rw [take_step hx, take_step hy, take_step hz]
  refine ⟨fun z hz => ?_, fun z hz => ?_, ?_⟩
  · rcases List.mem_append.1 hz with hz | hz
    · exact h1 z hz
    · simp at hz; rw [hz]; exact hf
  · rcases List.mem_append.1 hz with hz | hz
    · exact h2 z hz
    · simp at hz; rw [hz]; exact hg
  · rw [h3, List.sum_append]; simp
theorem DotInv.stop {xs ys : List Int} {k : Nat} {s : Int} (h : DotInv xs ys k s) (hl : xs.length = ys.length) (hk : ¬ k < xs.length) : fdot xs ys = s := by
  obtain ⟨h1, h2, h3⟩ := h
  rw [take_end hk] at h1
  rw [take_end (by omega)] at h2
  rw [take_end (by simp; omega)] at h3
  unfold fdot
  rw [if_pos ⟨hl, h1, h2⟩, h3]
theorem fdot_bad1 {xs ys : List Int} {k : Nat} {x : Int} (hx : xs[k]? = some x) (hf : ¬ fld x) : fdot xs ys = -1 := by
  unfold fdot
  rw [if_neg (fun h => hf (h.2.1 x (List.mem_of_getElem? hx)))]
theorem fdot_bad2 {xs ys : List Int} {k : Nat} {y : Int} (hy : ys[k]? = some y) (hf : ¬ fld y) : fdot xs ys = -1 := by
  unfold fdot
  rw [if_neg (fun h => hf (h.2.2 y (List.mem_of_getElem? hy)))]
theorem fdot_len {xs ys : List Int} (h : ¬ xs.length = ys.length) : fdot xs ys = -1 := by
  unfold fdot
  rw [if_neg (fun e => h e.1)]
theorem zip_comm : ∀ (xs ys : List Int), ((xs.zip ys).map fun p => p.1 * p.2) = (ys.zip xs).map fun p => p.1 * p.2
  | [], ys => by simp
  | _ :: _, [] => by simp
  | x :: xs, y :: ys => by simp [zip_comm xs ys, Int.mul_comm]

/-- A contract of a callee that leaves the world alone, as a quiet region asks it. -/
theorem quiet_same {P : Program} {f : FuncId} {args : Array Value} {w : World} {n : Nat} {v : Value}
    (h : Calls P f args (w.drewN n) fun e w' => e = .returned v ∧ w.drewN n = w') : Calls P f args (w.drewN n) fun e w'' => e = .returned v ∧ ∃ m, w'' = w.drewN m :=
  Calls.quiet_of_same (h.mono fun _ _ h => ⟨h.1, h.2.symm⟩)

theorem fdot_comm (xs ys : List Int) : fdot xs ys = fdot ys xs := by
  unfold fdot
  by_cases h : xs.length = ys.length ∧ (∀ x ∈ xs, fld x) ∧ ∀ y ∈ ys, fld y
  · rw [if_pos h, if_pos ⟨h.1.symm, h.2.2, h.2.1⟩]
    rw [zip_comm]
  · rw [if_neg h, if_neg (fun g => h ⟨g.1.symm, g.2.2, g.2.1⟩)]

end Go.Proofs.Ytoeklalhbkdjnaa.S
