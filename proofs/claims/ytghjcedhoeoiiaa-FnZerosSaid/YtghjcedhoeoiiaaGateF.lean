/- Gates over a system of inputs alone: what is added, and what solves it. -/
import Derived.Test.YtghjcedhoeoiiaaTold
import Derived.Test.YtghjcedhoeoiiaaGrown
import Derived.Test.YtghjcedhoeoiiaaInp
namespace Go.Proofs.Ytghjcedhoeoiiaa.L
open Go.RowKit Go.Proofs.Ytghjcedhoeoiiaa.S
set_option linter.unusedVariables false
set_option linter.unusedSimpArgs false

/-- A system of n inputs. -/
def sysI (n : Int) : SysC := ⟨n, [], [], []⟩
theorem sysI_R (n : Int) (f : Fits n) (w : World) : SysR false 0 0 w (.int .i64 n) (.slice none 0 0) (.slice none 0 0) (.slice none 0 0) (sysI n) :=
  ⟨rfl, f, 0, 0, 0, 0, 0, 0, Nat.le_refl _, Nat.le_refl _, Nat.le_refl _, Nat.le_refl _, Nat.le_refl _, Nat.le_refl _, (fun q => by cases q), LinS.nil, HintS.nil, ConS.nil⟩
theorem sysI_small (n : Int) : Small (sysI n) := ⟨by simp [sysI], by simp [sysI], by simp [sysI], by simp [sysI], by simp [sysI], by simp [sysI]⟩
def v1 : List T := [(1, 1)]
def v2 : List T := [(2, 1)]
def tBool : SysC := ⟨2, [], [], [⟨[(1, 1)], [(0, 2147483646), (1, 1)], []⟩]⟩
def tEq : SysC := ⟨2, [], [], [⟨[(1, 1), (2, 2147483646)], [(0, 1)], []⟩]⟩
theorem tBool_is : bSys (sysI 2) (boolB (sysI 2) ⟨[], [], 0⟩ v1) = tBool := by kernel_rfl
theorem tEq_is : bSys (sysI 2) (eqB (sysI 2) ⟨[], [], 0⟩ v1 v2) = tEq := by kernel_rfl
theorem tBool_may : mayL (sysI 2) [v1] = true := by kernel_rfl
theorem tEq_may : mayL (sysI 2) [v1, v2] = true := by kernel_rfl
theorem tBool_ok : bOk (boolB (sysI 2) ⟨[], [], 0⟩ v1) = true := by kernel_rfl
theorem tEq_ok : bOk (eqB (sysI 2) ⟨[], [], 0⟩ v1 v2) = true := by kernel_rfl
theorem tBool_sys : sysOk tBool = true := by kernel_rfl
theorem tEq_sys : sysOk tEq = true := by kernel_rfl
theorem sysI2_sys : sysOk (sysI 2) = true := by kernel_rfl
theorem asg3 {x y : Int} (hx : fl x) (hy : fl y) : isAsg [1, x, y] = true := decide_eq_true ⟨by simp, by simp, rfl, by
  intro z hz
  simp only [List.mem_cons, List.not_mem_nil, or_false] at hz
  rcases hz with rfl | rfl | rfl
  · unfold fl; omega
  · exact hx
  · exact hy⟩
theorem flB_of {x : Int} (h : fl x) : flB x = true := decide_eq_true h
theorem solB_bool {x y : Int} (hx : fl x) (hy : fl y) : solB tBool [x, y] = decide (x < 2) := by
  have e : lval [1, x, y] [(1, 1)] * lval [1, x, y] [(0, 2147483646), (1, 1)] % 2147483647 = x * ((x + 2147483646) % 2147483647) % 2147483647 := by
    have hx' := hx
    unfold fl at hx'
    have h1 : lval [1, x, y] [(1, 1)] = x := by simp [lval, term]; omega
    have h2 : lval [1, x, y] [(0, 2147483646), (1, 1)] = (x + 2147483646) % 2147483647 := by simp [lval, term]; omega
    rw [h1, h2]
  have e0 : lval [1, x, y] [] = 0 := rfl
  have hc : checkB tBool (solveL tBool [x, y]) = decide (x < 2) := by
    show checkB tBool [1, x, y] = _
    unfold checkB
    rw [tBool_sys, asg3 hx hy]
    simp only [tBool, allB, List.all_cons, List.all_nil, holdsB, varsN, Bool.and_true, Bool.true_and, e0, e]
    by_cases q : x < 2
    · rw [(bit_iff hx).2 q]; simp [q]
    · have : ¬ x * ((x + 2147483646) % 2147483647) % 2147483647 = 0 := fun h => q ((bit_iff hx).1 h)
      simp [q, this]
  unfold solB
  rw [tBool_sys, hc]
  simp [tBool, flB_of hx, flB_of hy]
theorem solB_eq {x y : Int} (hx : fl x) (hy : fl y) : solB tEq [x, y] = decide (x = y) := by
  have e : lval [1, x, y] [(1, 1), (2, 2147483646)] * lval [1, x, y] [(0, 1)] % 2147483647 = (x + y * 2147483646) % 2147483647 := by
    have h1 : lval [1, x, y] [(1, 1), (2, 2147483646)] = (x + y * 2147483646) % 2147483647 := by simp [lval, term]; omega
    have h2 : lval [1, x, y] [(0, 1)] = 1 := rfl
    rw [h1, h2]; omega
  have e0 : lval [1, x, y] [] = 0 := rfl
  have hc : checkB tEq (solveL tEq [x, y]) = decide (x = y) := by
    show checkB tEq [1, x, y] = _
    unfold checkB
    rw [tEq_sys, asg3 hx hy]
    simp only [tEq, allB, List.all_cons, List.all_nil, holdsB, varsN, Bool.and_true, Bool.true_and, e0, e]
    unfold fl at hx hy
    by_cases q : x = y
    · subst q
      have : (x + x * 2147483646) % 2147483647 = 0 := by omega
      simp [this]
    · have : ¬ (x + y * 2147483646) % 2147483647 = 0 := by omega
      simp [q, this]
  unfold solB
  rw [tEq_sys, hc]
  simp [tEq, flB_of hx, flB_of hy]
end Go.Proofs.Ytghjcedhoeoiiaa.L
