/- B8: SpecW VFor SpecOk -/
import Derived.Test.YtoeklalhbkdjnaaB7
set_option linter.unusedVariables false
set_option linter.unusedSimpArgs false
/- Valid systems: the model's SysOk. -/
namespace Go.Proofs.Ytoeklalhbkdjnaa.L
open Go.RowKit Go.Proofs.Ytoeklalhbkdjnaa.S
set_option linter.unusedVariables false
theorem lok_spec (o l h v ts) (w : World) (h1 : Terms o l h w v ts) (hw : h ≤ w.heap.size) (b : Bool) (hk : linOk ts = b) :
    Calls Try.prog 21 #[.agg #[v]] w fun e w' => e = .returned (.bool b) ∧ Below w.heap.size w w' := by
  have := linOk_spec o l h v ts w h1 hw
  rw [hk] at this; exact this

end Go.Proofs.Ytoeklalhbkdjnaa.L

/- Values of valid combinations for assignments; whether a constraint holds. -/
namespace Go.Proofs.Ytoeklalhbkdjnaa.L
open Go.RowKit Go.Proofs.Ytoeklalhbkdjnaa.S
set_option linter.unusedVariables false
set_option linter.unusedSimpArgs false

theorem linW_within' {n : Nat} {ts : List T} (h : linW n ts = true) : linOk ts = true ∧ within n ts = true := by
  rw [linW_within, Bool.and_eq_true] at h
  exact h

set_option maxRecDepth 100000 in
set_option maxHeartbeats 1600000 in
theorem valueFor_any (o1 l1 h1 va ts) (lim : Nat) (v : Value) (xs : List Int) (w : World) (t1 : Terms o1 l1 h1 w va ts) (hw1 : h1 ≤ w.heap.size) (t2 : Ints lim w v xs) (hl : lim ≤ w.heap.size) (ha : isAsg xs = true) (hin : linW xs.length ts = true) :
    Calls Try.prog 34 #[.agg #[va], v] w fun e w' => e = .returned (.int .i64 (lval xs ts)) ∧ Below w.heap.size w w' := by
  obtain ⟨hk, hin⟩ := linW_within' hin
  obtain ⟨a, ca, rfl, la, ba⟩ := t1.shape
  obtain ⟨c, cc, rfl, lc, bc⟩ := t2.shape
  have nl := linOk_length hk
  obtain ⟨nx, fx⟩ := asg_fits ha
  have FX := Lib.hid fx
  have IN := Lib.hid (of_decide_eq_true hin)
  clear fx
  go_enter Try.func34, Try.ntmps34
  go_wp2_with fail
  go_loopw [5, 11] (fun s i wr => ∃ (k : Nat), k ≤ ts.length ∧ i = .int .i64 k ∧ s = .int .i64 (lval xs (ts.take k)) ∧ Below w.heap.size w wr) (fun _ i _ => ts.length - (intOf i).toNat)
  case atStart => exact ⟨0, Nat.zero_le _, rfl, rfl, by (repeat (with_reducible first | exact bR _ _ | assumption | refine bD ?_ | refine bN ?_ _ | refine bA ?_ _ | refine bS ?_ _))⟩
  case round =>
    obtain ⟨k, hkl, rfl, rfl, be⟩ := hrel
    have hz := be.size
    by_cases hlt : k < ts.length
    · obtain ⟨b, off, x, y, rfl, l1', m1, c1, d1, e1, fx, fy⟩ := (t1.keep be hw1).at hlt
      obtain ⟨m, rfl, y0, y1⟩ := linOk_mem_at hk e1
      have hm : m < xs.length := by have := IN.out (m, y) (List.mem_of_getElem? e1); simp only at this; omega
      obtain ⟨b2', f2', z, rfl, l2', c2, e2, fz⟩ := (t2.keep be hl).at hm
      obtain ⟨z0, z1'⟩ := FX.out z (List.mem_of_getElem? e2)
      have HS := Lib.hid (lval_step (xs := xs) e1 (show xs[(m : Int).toNat]? = some z from e2))
      obtain ⟨s0, s1⟩ := lval_bd xs (ts.take k)
      generalize lval xs (ts.take k) = s at *
      have em := em_bd (y * z)
      have em2 := em_bd (s + y * z % 2147483647)
      have hmi : (m : Int) < (xs.length : Int) := by omega
      have s2 : b2' < wr.heap.size := World.block_lt_of_cell? wr _ c2
      clear e1 e2
      go_wp2_with fail
      go_quiet (first | (go_at_call 39; exact quiet_eq (times_any y z _ y0 y1 z0 z1')) | (go_at_call 38; exact quiet_eq (plus_any s (y * z % 2147483647) _ s0 s1 em.1 em.2)))
      go_wp2_with fail
      go_roundw
      case rel => exact ⟨k + 1, by omega, by go_num, by rw [HS.out], by (repeat (with_reducible first | exact bR _ _ | assumption | refine bD ?_ | refine bN ?_ _ | refine bA ?_ _ | refine bS ?_ _))⟩
      case measure => simp [intOf]; omega
    · rw [take_end hlt]
      go_wp2_with fail
      go_ret
      exact ⟨rfl, be⟩

/-- Whether the constraint holds for the numbers xs. -/
def holdsB (xs : List Int) (c : ConC) : Bool := lval xs c.a * lval xs c.b % 2147483647 == lval xs c.c
def conHold (xs : List Int) (c : ConC) : Bool := isAsg xs && (conW xs.length c && holdsB xs c)
theorem conW_parts {n : Int} {c : ConC} (h : conW n c = true) : linW n c.a = true ∧ linW n c.b = true ∧ linW n c.c = true := by
  unfold conW at h
  rw [Bool.and_eq_true, Bool.and_eq_true] at h
  exact ⟨h.1, h.2.1, h.2.2⟩
end Go.Proofs.Ytoeklalhbkdjnaa.L

/- Valid systems: the model's SysOk. -/
namespace Go.Proofs.Ytoeklalhbkdjnaa.L
open Go.RowKit Go.Proofs.Ytoeklalhbkdjnaa.S
set_option linter.unusedVariables false
end Go.Proofs.Ytoeklalhbkdjnaa.L
