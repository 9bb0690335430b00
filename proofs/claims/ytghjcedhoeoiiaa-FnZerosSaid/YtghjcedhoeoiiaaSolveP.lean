/- What hints tell, and what solves a system: the pure part (for spec.Solve, and for the laws that ask what is told). -/
import Derived.Test.YtghjcedhoeoiiaaB9
namespace Go.Proofs.Ytghjcedhoeoiiaa.L
open Go.RowKit Go.Proofs.Ytghjcedhoeoiiaa.S
set_option linter.unusedVariables false
set_option linter.unusedSimpArgs false

/-- What a hint tells of the values so far. -/
def toldV (xs : List Int) (h : HintC) : Int :=
  if h.kind = 0 then lval xs h.a * lval xs h.b % 2147483647
  else if h.kind = 1 then lval xs h.a / 2 ^ h.k.toNat % 2
  else if h.kind = 2 then M.pw (lval xs h.a) 2147483645
  else if lval xs h.b = 0 then 0 else lval xs h.a / lval xs h.b
theorem toldV_fl (xs : List Int) (h : HintC) : fl (toldV xs h) := by
  have ha := lval_bd xs h.a
  have hb := lval_bd xs h.b
  unfold toldV fl
  split
  · omega
  · split
    · omega
    · split
      · exact ⟨M.pw_lo _ _, M.pw_hi _ _⟩
      · split
        · omega
        · have h1 : 0 ≤ lval xs h.a / lval xs h.b := Int.ediv_nonneg ha.1 hb.1
          have h2 : lval xs h.a / lval xs h.b ≤ lval xs h.a := Int.ediv_le_self _ ha.1
          omega
def solveF : List Int → List HintC → List Int
  | xs, [] => xs
  | xs, h :: r => solveF (xs ++ [toldV xs h]) r
/-- What solves a system, if anything does. -/
def solveL (s : SysC) (ins : List Int) : List Int := solveF (1 :: ins) s.hints
theorem solveF_len : ∀ (hs : List HintC) (xs : List Int), (solveF xs hs).length = xs.length + hs.length := by
  intro hs
  induction hs with
  | nil => intro xs; rfl
  | cons h r ih => intro xs; rw [solveF, ih]; simp; omega
theorem solveL_len (s : SysC) (ins : List Int) : (solveL s ins).length = 1 + ins.length + s.hints.length := by unfold solveL; rw [solveF_len]; simp; omega
theorem asg_snoc {xs : List Int} {v : Int} (h : isAsg xs = true) (hv : fl v) (hl : xs.length + 1 ≤ 3000) : isAsg (xs ++ [v]) = true := by
  obtain ⟨h1, h2, h3, h4⟩ := of_decide_eq_true h
  refine decide_eq_true ⟨by simp, by simpa using hl, by rw [List.getElem?_append_left (by omega)]; exact h3, fun x hx => ?_⟩
  rcases List.mem_append.1 hx with q | q
  · exact h4 x q
  · rw [List.mem_singleton] at q; subst q; exact hv
theorem asg_start {ins : List Int} (h : ∀ x ∈ ins, fl x) (hl : ins.length + 1 ≤ 3000) : isAsg (1 :: ins) = true := by
  refine decide_eq_true ⟨by simp, by simpa using hl, rfl, fun x hx => ?_⟩
  rcases List.mem_cons.1 hx with q | q
  · subst q; unfold fl; omega
  · exact h x q
theorem solveF_asg : ∀ (hs : List HintC) (xs : List Int), isAsg xs = true → xs.length + hs.length ≤ 3000 → isAsg (solveF xs hs) = true := by
  intro hs
  induction hs with
  | nil => intro xs h _; exact h
  | cons h r ih =>
    intro xs hx hl
    have hl' : xs.length + (r.length + 1) ≤ 3000 := hl
    exact ih _ (asg_snoc hx (toldV_fl xs h) (by omega)) (by simp; omega)
/-- What is there stays there. -/
theorem solveF_at : ∀ (hs : List HintC) (xs : List Int) (i : Nat), i < xs.length → (solveF xs hs)[i]? = xs[i]? := by
  intro hs
  induction hs with
  | nil => intro xs i _; rfl
  | cons h r ih => intro xs i hi; rw [solveF, ih _ i (by simp; omega), List.getElem?_append_left hi]
theorem solveF_snoc : ∀ (hs : List HintC) (h : HintC) (xs : List Int), solveF xs (hs ++ [h]) = solveF xs hs ++ [toldV (solveF xs hs) h] := by
  intro hs
  induction hs with
  | nil => intro h xs; rfl
  | cons k r ih => intro h xs; rw [List.cons_append, solveF, ih]; rfl
theorem solveF_append : ∀ (hs ks : List HintC) (xs : List Int), solveF xs (hs ++ ks) = solveF (solveF xs hs) ks := by
  intro hs
  induction hs with
  | nil => intro ks xs; rfl
  | cons k r ih => intro ks xs; rw [List.cons_append, solveF, ih]; rfl
/-- The round of the loop. -/
theorem solveF_take {hs : List HintC} {xs : List Int} {k : Nat} (hk : k < hs.length) : solveF xs (hs.take (k + 1)) = solveF xs (hs.take k) ++ [toldV (solveF xs (hs.take k)) hs[k]] := by
  rw [← solveF_snoc, List.take_succ_eq_append_getElem hk]
/-- A product is 0 only if a factor is. -/
theorem zero_prod {a b : Int} (ha : fl a) (hb : fl b) (h : a * b % 2147483647 = 0) : a = 0 ∨ b = 0 := by
  unfold fl at ha hb
  by_cases h0 : a = 0
  · exact .inl h0
  · have hi := M.pw_inv a (by rw [Int.emod_eq_of_lt ha.1 ha.2]; exact h0)
    have e : b * (a * M.pw a 2147483645) % 2147483647 = a * b * M.pw a 2147483645 % 2147483647 := by rw [← Int.mul_assoc, Int.mul_comm b a]
    rw [Int.mul_emod, hi, Int.mul_emod (a * b), h] at e
    simp at e
    omega
/-- A bit is 0 or 1. -/
theorem bit_iff {a : Int} (ha : fl a) : a * ((a + 2147483646) % 2147483647) % 2147483647 = 0 ↔ a < 2 := by
  have hm : fl ((a + 2147483646) % 2147483647) := by unfold fl; omega
  refine ⟨fun h => ?_, fun h => ?_⟩
  · rcases zero_prod ha hm h with h | h
    · omega
    · unfold fl at ha; omega
  · unfold fl at ha
    have : a = 0 ∨ a = 1 := by omega
    rcases this with rfl | rfl <;> rfl
end Go.Proofs.Ytghjcedhoeoiiaa.L
