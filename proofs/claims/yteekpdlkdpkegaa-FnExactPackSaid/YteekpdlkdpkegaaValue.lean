/- The value of a combination for an assignment: the program's function and its model. -/
import Derived.Test.YteekpdlkdpkegaaNums
namespace Go.Proofs.Yteekpdlkdpkegaa.L
open Go.RowKit Go.Proofs.Yteekpdlkdpkegaa.S
set_option linter.unusedVariables false
set_option linter.unusedSimpArgs false

def fl (x : Int) : Prop := 0 ≤ x ∧ x < 2147483647
instance (x : Int) : Decidable (fl x) := by unfold fl; infer_instance
/-- An assignment: 1 to 3000 numbers of the field, the first of which is 1. -/
def isAsg (xs : List Int) : Bool := decide (1 ≤ xs.length ∧ xs.length ≤ 3000 ∧ xs[0]? = some 1 ∧ ∀ x ∈ xs, fl x)
/-- The value of the terms. -/
def term (xs : List Int) (t : T) : Int := t.2 * (xs[t.1.toNat]?.getD 0)
def lval (xs : List Int) (ts : List T) : Int := (ts.map (term xs)).sum % 2147483647
/-- All variables have values. -/
def within (n : Nat) (ts : List T) : Bool := decide (∀ t ∈ ts, t.1 < (n : Int))
def valOk (ts : List T) (xs : List Int) : Bool := linOk ts && (isAsg xs && within xs.length ts)
def val (ts : List T) (xs : List Int) : Int := if valOk ts xs = true then lval xs ts else 0

theorem lval_bd (xs : List Int) (ts : List T) : 0 ≤ lval xs ts ∧ lval xs ts < 2147483647 := by unfold lval; omega
theorem lval_nil (xs : List Int) : lval xs [] = 0 := rfl
theorem lval_step {xs : List Int} {ts : List T} {k : Nat} {x y z : Int} (h : ts[k]? = some (x, y)) (hz : xs[x.toNat]? = some z) : lval xs (ts.take (k + 1)) = (lval xs (ts.take k) + y * z % 2147483647) % 2147483647 := by
  unfold lval
  rw [take_step h, List.map_append, List.sum_append]
  simp [term, hz]

theorem quiet_eq {P : Program} {f : FuncId} {args : Array Value} {w : World} {n : Nat} {v : Value}
    (h : Calls P f args (w.drewN n) fun e w' => e = .returned v ∧ w.drewN n = w') : Calls P f args (w.drewN n) fun e w'' => e = .returned v ∧ ∃ m, w'' = w.drewN m :=
  Calls.quiet_of_same (h.mono fun _ _ h => ⟨h.1, h.2.symm⟩)
theorem okFrom_last : ∀ {ts : List T} {p : Int} {l : T}, okFrom p ts = true → ts.getLast? = some l → ∀ t ∈ ts, t.1 ≤ l.1
  | [], _, _, _, hl, t, ht => by simp at ht
  | [u], _, l, _, hl, t, ht => by
    simp at hl ht; subst hl; subst ht; exact Int.le_refl _
  | u :: v :: us, p, l, h, hl, t, ht => by
    obtain ⟨⟨h0, h1, h2, h3⟩, h4⟩ := okFrom_cons h
    have hl' : (v :: us).getLast? = some l := by simpa [List.getLast?_cons_cons] using hl
    have ih := okFrom_last h4 hl'
    rcases List.mem_cons.1 ht with rfl | ht
    · have := (okFrom_mem h4 v (List.mem_cons_self)).1
      have := ih v List.mem_cons_self
      omega
    · exact ih t ht
theorem within_last {ts : List T} (h : linOk ts = true) {x y : Int} {n : Nat} (hl : ts[ts.length - 1]? = some (x, y)) : within n ts = decide (x < (n : Int)) := by
  have hg : ts.getLast? = some (x, y) := by rw [List.getLast?_eq_getElem?]; exact hl
  have hle := okFrom_last h hg
  unfold within
  rw [decide_eq_decide]
  refine ⟨fun hh => hh (x, y) (List.mem_of_getLast? hg), fun hx t ht => ?_⟩
  have := hle t ht
  simp only at this
  omega

set_option maxRecDepth 100000 in
set_option maxHeartbeats 1600000 in
theorem within_any (o1 l1 h1 va ts) (n : Nat) (w : World) (t1 : Terms o1 l1 h1 w va ts) (hw1 : h1 ≤ w.heap.size) (hk : linOk ts = true) (hn : n ≤ 1000000) :
    Calls Try.prog 110 #[.agg #[va], .int .i64 n] w fun e w' => e = .returned (.bool (within n ts)) ∧ Below w.heap.size w w' := by
  obtain ⟨a, ca, rfl, la, ba⟩ := t1.shape
  have nl := linOk_length hk
  by_cases h0 : ts.length = 0
  · obtain rfl : ts = [] := List.eq_nil_of_length_eq_zero h0
    have HR := Lib.hid (show within n [] = true from decide_eq_true (by simp))
    clear h0
    go_enter Try.func110, Try.ntmps110
    go_wp2_with fail
    go_ret
    exact ⟨ret_bool HR.out.symm, by (repeat (first | with_reducible exact Below.refl _ _ | with_reducible assumption | with_reducible refine Below.drew ?_ | with_reducible refine bdrewN ?_ _ | ((with_reducible refine balloc ?_ ?_ _); (focus (first | with_reducible exact Nat.le_refl _ | (simp; done) | omega | (simp; omega) | exact Nat.le_refl _))) | ((with_reducible refine bset ?_ ?_ _); (focus (first | with_reducible exact Nat.le_refl _ | (simp; done) | omega | (simp; omega) | exact Nat.le_refl _)))))⟩
  · obtain ⟨b, off, x, y, rfl, l1', m1, c1, d1, e1, fx, fy⟩ := t1.at (k := ts.length - 1) (by omega)
    have HR := Lib.hid (within_last hk (n := n) e1)
    obtain ⟨j, hj⟩ : ∃ j : Nat, j = ts.length - 1 := ⟨_, rfl⟩
    rw [← hj] at c1
    have hb0 : ((ts.length : Int) == 0) = false := beq_eq_false_iff_ne.2 (by omega)
    have s1 : IntKind.i64.wrap ((ts.length : Int) - 1) = (j : Int) := by rw [IntWalk.i64_in _ (by omega)]; omega
    have s1' : (ts.length : Int) - 1 = (j : Int) := by omega
    have s2 : (j : Int) < (ts.length : Int) := by omega
    have s3 : j < ts.length := by omega
    have hbs : b < w.heap.size := World.block_lt_of_cell? w _ c1
    clear hj e1 d1 h0
    go_enter Try.func110, Try.ntmps110
    go_wp2_with fail
    go_ret
    exact ⟨ret_bool HR.out.symm, by (repeat (first | with_reducible exact Below.refl _ _ | with_reducible assumption | with_reducible refine Below.drew ?_ | with_reducible refine bdrewN ?_ _ | ((with_reducible refine balloc ?_ ?_ _); (focus (first | with_reducible exact Nat.le_refl _ | (simp; done) | omega | (simp; omega) | exact Nat.le_refl _))) | ((with_reducible refine bset ?_ ?_ _); (focus (first | with_reducible exact Nat.le_refl _ | (simp; done) | omega | (simp; omega) | exact Nat.le_refl _)))))⟩

theorem linOk_mem_at {ts : List T} (h : linOk ts = true) {k : Nat} {x y : Int} (e : ts[k]? = some (x, y)) : ∃ n : Nat, x = n ∧ 0 ≤ y ∧ y < 2147483647 := by
  have := linOk_at h e
  exact ⟨x.toNat, by simp at this; omega, by simp at this; omega, by simp at this; omega⟩
theorem asg_fits {xs : List Int} (h : isAsg xs = true) : xs.length ≤ 3000 ∧ ∀ x ∈ xs, fl x := by
  have := of_decide_eq_true h
  exact ⟨this.2.1, this.2.2.2⟩

end Go.Proofs.Yteekpdlkdpkegaa.L
