/- The value of a combination for an assignment: the program's function and its model. -/
import Derived.Test.YtaohghgdjnkgdaaNums
namespace Go.Proofs.Ytaohghgdjnkgdaa.L
open Go.RowKit Go.Proofs.Ytaohghgdjnkgdaa.S
set_option linter.unusedVariables false
set_option linter.unusedSimpArgs false

def fl (x : Int) : Prop := 0 ≤ x ∧ x < 2147483647
instance (x : Int) : Decidable (fl x) := by unfold fl; infer_instance
/-- An assignment: 1 to 3000 numbers of the field, the first of which is 1. -/
def isAsg (xs : List Int) : Bool := decide (1 ≤ xs.length ∧ xs.length ≤ 3000 ∧ xs[0]? = some 1 ∧ ∀ x ∈ xs, fl x)
/-- The value of the terms. -/
def term (xs : List Int) (t : T) : Int := t.2 * (xs[t.1.toNat]?.getD 0)
def lval (xs : List Int) (ts : List T) : Int := (ts.map (term xs)).sum % 2147483647
/-- All variables have values. -/
def within (n : Nat) (ts : List T) : Bool := decide (∀ t ∈ ts, t.1 < (n : Int))
def valOk (ts : List T) (xs : List Int) : Bool := linOk ts && (isAsg xs && within xs.length ts)
def val (ts : List T) (xs : List Int) : Int := if valOk ts xs = true then lval xs ts else 0

theorem lval_bd (xs : List Int) (ts : List T) : 0 ≤ lval xs ts ∧ lval xs ts < 2147483647 := by unfold lval; omega
theorem lval_nil (xs : List Int) : lval xs [] = 0 := rfl
theorem lval_step {xs : List Int} {ts : List T} {k : Nat} {x y z : Int} (h : ts[k]? = some (x, y)) (hz : xs[x.toNat]? = some z) : lval xs (ts.take (k + 1)) = (lval xs (ts.take k) + y * z % 2147483647) % 2147483647 := by
  unfold lval
  rw [take_step h, List.map_append, List.sum_append]
  simp [term, hz]

theorem quiet_eq {P : Program} {f : FuncId} {args : Array Value} {w : World} {n : Nat} {v : Value}
    (h : Calls P f args (w.drewN n) fun e w' => e = .returned v ∧ w.drewN n = w') : Calls P f args (w.drewN n) fun e w'' => e = .returned v ∧ ∃ m, w'' = w.drewN m :=
  Calls.quiet_of_same (h.mono fun _ _ h => ⟨h.1, h.2.symm⟩)
theorem fok_yes_spec (n : Int) (w : World) (h0 : 0 ≤ n) (h1 : n < 2147483647) : Calls Try.prog 107 #[.int .i64 n] w fun e w' => e = .returned (.bool true) ∧ w = w' :=
  (fok_spec n w).mono fun e w' ⟨he, hw⟩ => ⟨by rw [he]; exact S.ret_bool (by simp; omega), hw⟩
theorem fok_no_spec (n : Int) (w : World) (h : n < 0 ∨ 2147483647 ≤ n) : Calls Try.prog 107 #[.int .i64 n] w fun e w' => e = .returned (.bool false) ∧ w = w' :=
  (fok_spec n w).mono fun e w' ⟨he, hw⟩ => ⟨by rw [he]; exact S.ret_bool (by simp; omega), hw⟩
theorem okFrom_last : ∀ {ts : List T} {p : Int} {l : T}, okFrom p ts = true → ts.getLast? = some l → ∀ t ∈ ts, t.1 ≤ l.1
  | [], _, _, _, hl, t, ht => by simp at ht
  | [u], _, l, _, hl, t, ht => by
    simp at hl ht; subst hl; subst ht; exact Int.le_refl _
  | u :: v :: us, p, l, h, hl, t, ht => by
    obtain ⟨⟨h0, h1, h2, h3⟩, h4⟩ := okFrom_cons h
    have hl' : (v :: us).getLast? = some l := by simpa [List.getLast?_cons_cons] using hl
    have ih := okFrom_last h4 hl'
    rcases List.mem_cons.1 ht with rfl | ht
    · have := (okFrom_mem h4 v (List.mem_cons_self)).1
      have := ih v List.mem_cons_self
      omega
    · exact ih t ht
theorem within_last {ts : List T} (h : linOk ts = true) {x y : Int} {n : Nat} (hl : ts[ts.length - 1]? = some (x, y)) : within n ts = decide (x < (n : Int)) := by
  have hg : ts.getLast? = some (x, y) := by rw [List.getLast?_eq_getElem?]; exact hl
  have hle := okFrom_last h hg
  unfold within
  rw [decide_eq_decide]
  refine ⟨fun hh => hh (x, y) (List.mem_of_getLast? hg), fun hx t ht => ?_⟩
  have := hle t ht
  simp only at this
  omega

set_option maxRecDepth 100000 in
set_option maxHeartbeats 1600000 in
theorem asg_impl (lim : Nat) (v : Value) (xs : List Int) (w : World) (h1 : Ints lim w v xs) :
    Calls Try.prog 82 #[v] w fun e w' => e = .returned (.bool (isAsg xs)) ∧ w = w' := by
  obtain ⟨a, ca, rfl, la, ba⟩ := h1.shape
  by_cases hn : 1 ≤ xs.length
  case' neg =>
    have HR := Lib.hid (show isAsg xs = false from decide_eq_false (fun h => hn h.1))
    obtain rfl : xs = [] := List.eq_nil_of_length_eq_zero (by omega)
    go_enter Try.func82, Try.ntmps82
    go_wp2_with fail
    go_ret
    exact ⟨ret_bool HR.out.symm, rfl⟩
  by_cases hm : xs.length ≤ 3000
  case' neg =>
    have HR := Lib.hid (show isAsg xs = false from decide_eq_false (fun h => hm h.2.1))
    go_enter Try.func82, Try.ntmps82
    go_wp2_with fail
    go_ret
    exact ⟨ret_bool HR.out.symm, rfl⟩
  obtain ⟨b0, f0, x0, rfl, l0, c0, e0, _⟩ := h1.at (k := 0) (by omega)
  rw [Nat.add_zero] at c0
  by_cases hx0 : x0 = 1
  case' neg =>
    have HR := Lib.hid (show isAsg xs = false from decide_eq_false (fun h => hx0 (by have := h.2.2.1; rw [e0] at this; simpa using this)))
    have hb : (x0 != 1) = true := by simp [hx0]
    clear hx0 e0
    go_enter Try.func82, Try.ntmps82
    go_wp2_with fail
    go_ret
    exact ⟨ret_bool HR.out.symm, rfl⟩
  subst hx0
  have HE := Lib.hid e0
  clear e0
  go_enter Try.func82, Try.ntmps82
  go_wp2_with fail
  go_loop [21] (fun i => ∃ k : Nat, k ≤ xs.length ∧ i = .int .i64 k ∧ ∀ x ∈ xs.take k, fl x) (fun i => xs.length - (intOf i).toNat)
  case atStart => exact ⟨0, Nat.zero_le _, rfl, by simp⟩
  case round =>
    obtain ⟨k, hk, rfl, hf⟩ := hrel
    by_cases hlt : k < xs.length
    · obtain ⟨b, off, x, e', l1, c1, e1, _⟩ := h1.at hlt
      simp only [Option.some.injEq, Addr.mk.injEq, and_true] at e'
      obtain ⟨rfl, rfl⟩ := e'
      by_cases hfx : fl x
      · have HF : Hid (∀ y ∈ xs.take (k + 1), fl y) := Lib.hid (fun y hy => by
          rw [take_step e1] at hy
          rcases List.mem_append.1 hy with hy | hy
          · exact hf y hy
          · simp at hy; rw [hy]; exact hfx)
        obtain ⟨g0, g1⟩ := hfx
        clear hf e1
        go_wp2_with (go_at_call 109; refine (L.fok_yes x _ g0 g1).mono ?_; rintro e w' ⟨rfl, rfl⟩)
        go_round
        case rel => exact ⟨k + 1, by omega, by go_num, HF.out⟩
        case measure => simp [intOf]; omega
      · have HR := Lib.hid (show isAsg xs = false from decide_eq_false (fun h => hfx (h.2.2.2 x (List.mem_of_getElem? e1))))
        have hg : x < 0 ∨ 2147483647 ≤ x := by unfold fl at hfx; omega
        clear hf e1 hfx
        go_wp2_with (go_at_call 109; refine (L.fok_no x _ hg).mono ?_; rintro e w' ⟨rfl, rfl⟩)
        go_ret
        exact ⟨ret_bool HR.out.symm, rfl⟩
    · rw [take_end hlt] at hf
      have HR := Lib.hid (show isAsg xs = true from decide_eq_true ⟨hn, hm, HE.out, hf⟩)
      clear hf
      go_wp2_with fail
      go_ret
      exact ⟨ret_bool HR.out.symm, rfl⟩
set_option maxRecDepth 100000 in
set_option maxHeartbeats 1600000 in
theorem asg_spec (lim : Nat) (v : Value) (xs : List Int) (w : World) (h1 : Ints lim w v xs) :
    Calls Try.prog 80 #[v] w fun e w' => e = .returned (.bool (isAsg xs)) ∧ w = w' := by
  obtain ⟨a, ca, rfl, la, ba⟩ := h1.shape
  by_cases hn : 1 ≤ xs.length
  case' neg =>
    have HR := Lib.hid (show isAsg xs = false from decide_eq_false (fun h => hn h.1))
    obtain rfl : xs = [] := List.eq_nil_of_length_eq_zero (by omega)
    go_enter Try.func80, Try.ntmps80
    go_wp2_with fail
    go_ret
    exact ⟨ret_bool HR.out.symm, rfl⟩
  by_cases hm : xs.length ≤ 3000
  case' neg =>
    have HR := Lib.hid (show isAsg xs = false from decide_eq_false (fun h => hm h.2.1))
    go_enter Try.func80, Try.ntmps80
    go_wp2_with fail
    go_ret
    exact ⟨ret_bool HR.out.symm, rfl⟩
  obtain ⟨b0, f0, x0, rfl, l0, c0, e0, _⟩ := h1.at (k := 0) (by omega)
  rw [Nat.add_zero] at c0
  by_cases hx0 : x0 = 1
  case' neg =>
    have HR := Lib.hid (show isAsg xs = false from decide_eq_false (fun h => hx0 (by have := h.2.2.1; rw [e0] at this; simpa using this)))
    have hb : (x0 != 1) = true := by simp [hx0]
    clear hx0 e0
    go_enter Try.func80, Try.ntmps80
    go_wp2_with fail
    go_ret
    exact ⟨ret_bool HR.out.symm, rfl⟩
  subst hx0
  have HE := Lib.hid e0
  clear e0
  go_enter Try.func80, Try.ntmps80
  go_wp2_with fail
  go_loop [3] (fun i => ∃ k : Nat, k ≤ xs.length ∧ i = .int .i64 k ∧ ∀ x ∈ xs.take k, fl x) (fun i => xs.length - (intOf i).toNat)
  case atStart => exact ⟨0, Nat.zero_le _, rfl, by simp⟩
  case round =>
    obtain ⟨k, hk, rfl, hf⟩ := hrel
    by_cases hlt : k < xs.length
    · obtain ⟨b, off, x, e', l1, c1, e1, _⟩ := h1.at hlt
      simp only [Option.some.injEq, Addr.mk.injEq, and_true] at e'
      obtain ⟨rfl, rfl⟩ := e'
      by_cases hfx : fl x
      · have HF : Hid (∀ y ∈ xs.take (k + 1), fl y) := Lib.hid (fun y hy => by
          rw [take_step e1] at hy
          rcases List.mem_append.1 hy with hy | hy
          · exact hf y hy
          · simp at hy; rw [hy]; exact hfx)
        obtain ⟨g0, g1⟩ := hfx
        clear hf e1
        go_wp2_with (go_at_call 107; refine (fok_yes_spec x _ g0 g1).mono ?_; rintro e w' ⟨rfl, rfl⟩)
        go_round
        case rel => exact ⟨k + 1, by omega, by go_num, HF.out⟩
        case measure => simp [intOf]; omega
      · have HR := Lib.hid (show isAsg xs = false from decide_eq_false (fun h => hfx (h.2.2.2 x (List.mem_of_getElem? e1))))
        have hg : x < 0 ∨ 2147483647 ≤ x := by unfold fl at hfx; omega
        clear hf e1 hfx
        go_wp2_with (go_at_call 107; refine (fok_no_spec x _ hg).mono ?_; rintro e w' ⟨rfl, rfl⟩)
        go_ret
        exact ⟨ret_bool HR.out.symm, rfl⟩
    · rw [take_end hlt] at hf
      have HR := Lib.hid (show isAsg xs = true from decide_eq_true ⟨hn, hm, HE.out, hf⟩)
      clear hf
      go_wp2_with fail
      go_ret
      exact ⟨ret_bool HR.out.symm, rfl⟩

set_option maxRecDepth 100000 in
set_option maxHeartbeats 1600000 in
theorem within_any (o1 l1 h1 va ts) (n : Nat) (w : World) (t1 : Terms o1 l1 h1 w va ts) (hw1 : h1 ≤ w.heap.size) (hk : linOk ts = true) (hn : n ≤ 1000000) :
    Calls Try.prog 61 #[.agg #[va], .int .i64 n] w fun e w' => e = .returned (.bool (within n ts)) ∧ Below w.heap.size w w' := by
  obtain ⟨a, ca, rfl, la, ba⟩ := t1.shape
  have nl := linOk_length hk
  by_cases h0 : ts.length = 0
  · obtain rfl : ts = [] := List.eq_nil_of_length_eq_zero h0
    have HR := Lib.hid (show within n [] = true from decide_eq_true (by simp))
    clear h0
    go_enter Try.func61, Try.ntmps61
    go_wp2_with fail
    go_ret
    exact ⟨ret_bool HR.out.symm, by (repeat (first | with_reducible exact Below.refl _ _ | with_reducible assumption | with_reducible refine Below.drew ?_ | with_reducible refine bdrewN ?_ _ | ((with_reducible refine balloc ?_ ?_ _); (focus (first | with_reducible exact Nat.le_refl _ | (simp; done) | omega | (simp; omega) | exact Nat.le_refl _))) | ((with_reducible refine bset ?_ ?_ _); (focus (first | with_reducible exact Nat.le_refl _ | (simp; done) | omega | (simp; omega) | exact Nat.le_refl _)))))⟩
  · obtain ⟨b, off, x, y, rfl, l1', m1, c1, d1, e1, fx, fy⟩ := t1.at (k := ts.length - 1) (by omega)
    have HR := Lib.hid (within_last hk (n := n) e1)
    obtain ⟨j, hj⟩ : ∃ j : Nat, j = ts.length - 1 := ⟨_, rfl⟩
    rw [← hj] at c1
    have hb0 : ((ts.length : Int) == 0) = false := beq_eq_false_iff_ne.2 (by omega)
    have s1 : IntKind.i64.wrap ((ts.length : Int) - 1) = (j : Int) := by rw [IntWalk.i64_in _ (by omega)]; omega
    have s1' : (ts.length : Int) - 1 = (j : Int) := by omega
    have s2 : (j : Int) < (ts.length : Int) := by omega
    have s3 : j < ts.length := by omega
    have hbs : b < w.heap.size := World.block_lt_of_cell? w _ c1
    clear hj e1 d1 h0
    go_enter Try.func61, Try.ntmps61
    go_wp2_with fail
    go_ret
    exact ⟨ret_bool HR.out.symm, by (repeat (first | with_reducible exact Below.refl _ _ | with_reducible assumption | with_reducible refine Below.drew ?_ | with_reducible refine bdrewN ?_ _ | ((with_reducible refine balloc ?_ ?_ _); (focus (first | with_reducible exact Nat.le_refl _ | (simp; done) | omega | (simp; omega) | exact Nat.le_refl _))) | ((with_reducible refine bset ?_ ?_ _); (focus (first | with_reducible exact Nat.le_refl _ | (simp; done) | omega | (simp; omega) | exact Nat.le_refl _)))))⟩

theorem linOk_mem_at {ts : List T} (h : linOk ts = true) {k : Nat} {x y : Int} (e : ts[k]? = some (x, y)) : ∃ n : Nat, x = n ∧ 0 ≤ y ∧ y < 2147483647 := by
  have := linOk_at h e
  exact ⟨x.toNat, by simp at this; omega, by simp at this; omega, by simp at this; omega⟩
theorem asg_fits {xs : List Int} (h : isAsg xs = true) : xs.length ≤ 3000 ∧ ∀ x ∈ xs, fl x := by
  have := of_decide_eq_true h
  exact ⟨this.2.1, this.2.2.2⟩

set_option maxRecDepth 100000 in
set_option maxHeartbeats 1600000 in
theorem l2value_any (o1 l1 h1 va ts) (lim : Nat) (v : Value) (xs : List Int) (w : World) (t1 : Terms o1 l1 h1 w va ts) (hw1 : h1 ≤ w.heap.size) (t2 : Ints lim w v xs) (hl : lim ≤ w.heap.size) (hk : linOk ts = true) (ha : isAsg xs = true) (hin : within xs.length ts = true) :
    Calls Try.prog 85 #[.agg #[va], v] w fun e w' => e = .returned (.int .i64 (lval xs ts)) ∧ Below w.heap.size w w' := by
  obtain ⟨a, ca, rfl, la, ba⟩ := t1.shape
  obtain ⟨c, cc, rfl, lc, bc⟩ := t2.shape
  have nl := linOk_length hk
  obtain ⟨nx, fx⟩ := asg_fits ha
  have FX := Lib.hid fx
  have IN := Lib.hid (of_decide_eq_true hin)
  clear fx
  go_enter Try.func85, Try.ntmps85
  go_wp2_with fail
  generalize hW : World.alloc _ _ = W
  have bW : Below w.heap.size w W := by rw [← hW]; (repeat (first | with_reducible exact Below.refl _ _ | with_reducible assumption | with_reducible refine Below.drew ?_ | with_reducible refine bdrewN ?_ _ | ((with_reducible refine balloc ?_ ?_ _); (focus (first | with_reducible exact Nat.le_refl _ | (simp; done) | omega | (simp; omega) | exact Nat.le_refl _))) | ((with_reducible refine bset ?_ ?_ _); (focus (first | with_reducible exact Nat.le_refl _ | (simp; done) | omega | (simp; omega) | exact Nat.le_refl _)))))
  have zW : w.heap.size + 1 ≤ W.heap.size := by rw [← hW]; simp
  have cA : W.cell? ⟨w.heap.size, 0, none⟩ = some (.slice a ts.length ca) := by rw [← hW]; first | (simp; done) | go_simp
  have t1W := t1.keep bW hw1
  have t2W := t2.keep bW hl
  clear hW
  go_loopw [5, 6] (fun s i wr => ∃ (k n : Nat), k ≤ ts.length ∧ i = .int .i64 k ∧ s = .int .i64 (lval xs (ts.take k)) ∧ wr = W.drewN n) (fun _ i _ => ts.length - (intOf i).toNat)
  case atStart => exact ⟨0, 0, Nat.zero_le _, rfl, rfl, rfl⟩
  case round =>
    obtain ⟨k, n, hkl, rfl, rfl, hwr⟩ := hrel
    have be : Below W.heap.size W wr := by rw [hwr]; (repeat (first | with_reducible exact Below.refl _ _ | with_reducible assumption | with_reducible refine Below.drew ?_ | with_reducible refine bdrewN ?_ _ | ((with_reducible refine balloc ?_ ?_ _); (focus (first | with_reducible exact Nat.le_refl _ | (simp; done) | omega | (simp; omega) | exact Nat.le_refl _))) | ((with_reducible refine bset ?_ ?_ _); (focus (first | with_reducible exact Nat.le_refl _ | (simp; done) | omega | (simp; omega) | exact Nat.le_refl _)))))
    have cr := cell_keep be cA
    by_cases hlt : k < ts.length
    · obtain ⟨b, off, x, y, rfl, l1', m1, c1, d1, e1, fx, fy⟩ := (t1W.keep be (by omega)).at hlt
      obtain ⟨m, rfl, y0, y1⟩ := linOk_mem_at hk e1
      have hm : m < xs.length := by have := IN.out (m, y) (List.mem_of_getElem? e1); simp only at this; omega
      obtain ⟨b2, f2, z, rfl, l2', c2, e2, fz⟩ := (t2W.keep be (by omega)).at hm
      obtain ⟨z0, z1⟩ := FX.out z (List.mem_of_getElem? e2)
      have HS := Lib.hid (lval_step (xs := xs) e1 (show xs[(m : Int).toNat]? = some z from e2))
      obtain ⟨s0, s1⟩ := lval_bd xs (ts.take k)
      generalize lval xs (ts.take k) = s at *
      have em := em_bd (y * z)
      have em2 := em_bd (s + y * z % 2147483647)
      have hmi : (m : Int) < (xs.length : Int) := by omega
      have HW := Lib.hid hwr
      clear e1 e2 hwr
      go_wp2_with fail
      go_quiet (first | (go_at_call 108; exact quiet_eq (l1mul_any y z _ y0 y1 z0 z1)) | (go_at_call 111; exact quiet_eq (l1add_any s (y * z % 2147483647) _ s0 s1 em.1 em.2)))
      go_wp2_with fail
      go_roundw
      case rel => exact ⟨k + 1, _, by omega, by go_num, by rw [HS.out], by rw [HW.out, World.drewN_drewN]⟩
      case measure => simp [intOf]; omega
    · rw [take_end hlt]
      have be2 := bW.trans (be.mono bW.size)
      clear hwr
      go_wp2_with fail
      go_ret
      exact ⟨rfl, be2⟩
end Go.Proofs.Ytaohghgdjnkgdaa.L
