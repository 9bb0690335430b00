/- AddZero over one input: what is added, what is told, and that no other value satisfies it. -/
import Derived.Test.YtcenijdaacbgpaaGateG
namespace Go.Proofs.Ytcenijdaacbgpaa.L
open Go.RowKit Go.Proofs.Ytcenijdaacbgpaa.S
set_option linter.unusedVariables false
set_option linter.unusedSimpArgs false

def zZero : List T := [(0, 1), (3, 2147483646)]
def tZero : SysC := ⟨1, [], [⟨2, v1, [], 0⟩, ⟨0, v1, v2, 0⟩], [⟨v1, v2, [(3, 1)]⟩, ⟨v1, zZero, []⟩]⟩
theorem tZero_is : bSys (sysI 1) (zeroB (sysI 1) ⟨[], [], 0⟩ v1) = tZero := by kernel_rfl
theorem zZero_is : zeroBZ (sysI 1) ⟨[], [], 0⟩ v1 = zZero := by kernel_rfl
theorem tZero_may : mayL (sysI 1) [v1] = true := by kernel_rfl
theorem tZero_ok : bOk (zeroB (sysI 1) ⟨[], [], 0⟩ v1) = true := by kernel_rfl
theorem tZero_sys : sysOk tZero = true := by kernel_rfl
theorem zZero_in : linW (varsN tZero) zZero = true := by kernel_rfl
theorem sysI1_sys : sysOk (sysI 1) = true := by kernel_rfl
/-- The product of a number and its inverse. -/
def pZ (x : Int) : Int := if x = 0 then 0 else 1
theorem pZ_is {x : Int} (hx : fl x) : x * M.pw x 2147483645 % 2147483647 = pZ x := by
  unfold pZ
  unfold fl at hx
  by_cases q : x = 0
  · rw [if_pos q, q]; simp
  · rw [if_neg q, M.pw_inv x (by omega)]
theorem lv1 {x i p : Int} (hx : fl x) : lval [1, x, i, p] v1 = x := by unfold fl at hx; simp [lval, term, v1]; omega
theorem lv2 {x i p : Int} (hi : fl i) : lval [1, x, i, p] v2 = i := by unfold fl at hi; simp [lval, term, v2]; omega
theorem lv3 {x i p : Int} (hp : fl p) : lval [1, x, i, p] [(3, 1)] = p := by unfold fl at hp; simp [lval, term]; omega
theorem lvz {x i p : Int} : lval [1, x, i, p] zZero = (1 + p * 2147483646) % 2147483647 := by simp [lval, term, zZero]; omega
theorem zero_solve {x : Int} (hx : fl x) : solveL tZero [x] = [1, x, M.pw x 2147483645, pZ x] := by
  have hx' := hx
  unfold fl at hx'
  have hi : fl (M.pw x 2147483645) := ⟨M.pw_lo _ _, M.pw_hi _ _⟩
  have h1 : lval [1, x] v1 = x := by simp [lval, term, v1]; omega
  have h2 : lval [1, x, M.pw x 2147483645] v1 = x := by simp [lval, term, v1]; omega
  have h3 : lval [1, x, M.pw x 2147483645] v2 = M.pw x 2147483645 := by unfold fl at hi; simp [lval, term, v2]; omega
  have e1 : toldV [1, x] ⟨2, v1, [], 0⟩ = M.pw x 2147483645 := by simp [toldV, h1]
  show ([1, x] ++ [toldV [1, x] ⟨2, v1, [], 0⟩]) ++ [toldV ([1, x] ++ [toldV [1, x] ⟨2, v1, [], 0⟩]) ⟨0, v1, v2, 0⟩] = _
  rw [e1]
  show [1, x, M.pw x 2147483645] ++ [toldV [1, x, M.pw x 2147483645] ⟨0, v1, v2, 0⟩] = _
  have e2 : toldV [1, x, M.pw x 2147483645] ⟨0, v1, v2, 0⟩ = pZ x := by rw [← pZ_is hx]; simp [toldV, h2, h3]
  rw [e2]; rfl
theorem zero_all {x i p : Int} (hx : fl x) (hi : fl i) (hp : fl p) : allB [1, x, i, p] tZero.cons = (decide (x * i % 2147483647 = p) && decide (x * ((1 + p * 2147483646) % 2147483647) % 2147483647 = 0)) := by
  have e0 : lval [1, x, i, p] [] = 0 := rfl
  simp only [tZero, allB, List.all_cons, List.all_nil, holdsB, Bool.and_true, lv1 hx, lv2 hi, lv3 hp, lvz, e0]
  rfl
theorem pZ_fl (x : Int) : fl (pZ x) := by unfold pZ fl; split <;> omega
def yZ (x : Int) : Int := if x = 0 then 1 else 0
theorem yZ_is (x : Int) : (1 + pZ x * 2147483646) % 2147483647 = yZ x := by unfold pZ yZ; split <;> rfl
theorem zero_sol {x : Int} (hx : fl x) : solB tZero [x] = true ∧ toldL tZero [x] [zZero] = [yZ x] := by
  have hi : fl (M.pw x 2147483645) := ⟨M.pw_lo _ _, M.pw_hi _ _⟩
  have e : solB tZero [x] = true := by
    rw [solB_of tZero_sys rfl (by intro z hz; rw [List.mem_singleton] at hz; rw [hz]; exact hx), zero_solve hx, zero_all hx hi (pZ_fl x), pZ_is hx, yZ_is]
    unfold yZ
    by_cases q : x = 0
    · simp [q]
    · simp [q]
  refine ⟨e, ?_⟩
  unfold toldL
  rw [if_pos e, zero_solve hx]
  simp only [List.map_cons, List.map_nil, lvz, yZ_is]
theorem zero_solL {x : Int} (hx : fl x) : solL tZero [x] = [1, x, M.pw x 2147483645, pZ x] := by
  unfold solL
  rw [(zero_sol hx).1, zero_solve hx]; rfl
theorem asg_at {xs : List Int} (h : isAsg xs = true) : ∀ z ∈ xs, fl z := by
  unfold isAsg at h
  exact (of_decide_eq_true h).2.2.2
/-- What keeps the constraints tells the same. -/
theorem zero_firm {x i p : Int} (hx : fl x) (h : checkB tZero [1, x, i, p] = true) (hip : i = M.pw x 2147483645 ∨ p = pZ x) : valOk zZero [1, x, i, p] = true ∧ val zZero [1, x, i, p] = yZ x := by
  have ha := (checkB_f2 h).2.2
  have hf := asg_at ha
  have hi : fl i := hf i (by simp)
  have hp : fl p := hf p (by simp)
  have hl : linW (([1, x, i, p] : List Int).length : Int) zZero = true := zZero_in
  have hv : valOk zZero [1, x, i, p] = true := valOk_in hl ha
  refine ⟨hv, ?_⟩
  rw [val_yes hv, lvz]
  have hc : allB [1, x, i, p] tZero.cons = true := by
    unfold checkB at h
    simp only [Bool.and_eq_true] at h
    exact h.2.2.2
  rw [zero_all hx hi hp] at hc
  simp only [Bool.and_eq_true, decide_eq_true_eq] at hc
  have hpp : p = pZ x := by
    rcases hip with q | q
    · rw [← hc.1, q, pZ_is hx]
    · exact q
  rw [hpp, yZ_is]
end Go.Proofs.Ytcenijdaacbgpaa.L
