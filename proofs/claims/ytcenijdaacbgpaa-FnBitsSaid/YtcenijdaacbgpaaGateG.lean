/- AddMux and AddXor over four inputs: what is added, and what is told. -/
import Derived.Test.YtcenijdaacbgpaaB25
import Derived.Test.YtcenijdaacbgpaaAddL
namespace Go.Proofs.Ytcenijdaacbgpaa.L
open Go.RowKit Go.Proofs.Ytcenijdaacbgpaa.S
set_option linter.unusedVariables false
set_option linter.unusedSimpArgs false

theorem solB_of {s : SysC} {xs : List Int} (ok : sysOk s = true) (hn : (xs.length : Int) = s.ins) (hf : ∀ x ∈ xs, fl x) : solB s xs = allB (solveL s xs) s.cons := by
  have lim := limB_facts (sysOk_limB ok)
  have hl : xs.length + 1 ≤ 3000 := by omega
  have ha : isAsg (solveL s xs) = true := solveF_asg _ _ (asg_start hf hl) (by simp; omega)
  have hv : ((solveL s xs).length : Int) = varsN s := by rw [solveL_len]; unfold varsN; omega
  have h2 : xs.all flB = true := List.all_eq_true.2 fun x hx => decide_eq_true (hf x hx)
  unfold solB checkB
  rw [ok, decide_eq_true hn, h2, ha, decide_eq_true hv]
  simp
def w3L : List T := [(3, 1)]
def w4L : List T := [(4, 1)]
def dAB : List T := [(2, 1), (3, 2147483646)]
def tMux : SysC := ⟨4, [], [⟨0, v1, dAB, 0⟩], [⟨v1, dAB, [(5, 1)]⟩]⟩
def zMux : List T := [(3, 1), (5, 1)]
def tXor : SysC := ⟨4, [], [⟨0, v1, w4L, 0⟩], [⟨v1, w4L, [(5, 1)]⟩]⟩
def zXor : List T := [(1, 1), (4, 1), (5, 2147483645)]
theorem tMux_is : bSys (sysI 4) (muxB (sysI 4) ⟨[], [], 0⟩ v1 v2 w3L) = tMux := by kernel_rfl
theorem zMux_is : muxBZ (sysI 4) ⟨[], [], 0⟩ w3L = zMux := by kernel_rfl
theorem tMux_may : mayL (sysI 4) [v1, v2, w3L] = true := by kernel_rfl
theorem tMux_ok : bOk (muxB (sysI 4) ⟨[], [], 0⟩ v1 v2 w3L) = true := by kernel_rfl
theorem tMux_sys : sysOk tMux = true := by kernel_rfl
theorem zMux_in : linW (varsN tMux) zMux = true := by kernel_rfl
theorem tXor_is : bSys (sysI 4) (xorB (sysI 4) ⟨[], [], 0⟩ v1 w4L) = tXor := by kernel_rfl
theorem zXor_is : xorBZ (sysI 4) ⟨[], [], 0⟩ v1 w4L = zXor := by kernel_rfl
theorem tXor_may : mayL (sysI 4) [v1, w4L] = true := by kernel_rfl
theorem tXor_ok : bOk (xorB (sysI 4) ⟨[], [], 0⟩ v1 w4L) = true := by kernel_rfl
theorem tXor_sys : sysOk tXor = true := by kernel_rfl
theorem zXor_in : linW (varsN tXor) zXor = true := by kernel_rfl
theorem sysI4_sys : sysOk (sysI 4) = true := by kernel_rfl
theorem fl4 {c x y d : Int} (hc : fl c) (hx : fl x) (hy : fl y) (hd : fl d) : ∀ z ∈ [c, x, y, d], fl z := by
  intro z hz
  simp only [List.mem_cons, List.not_mem_nil, or_false] at hz
  rcases hz with rfl | rfl | rfl | rfl <;> assumption
theorem mux_solve {c x y d : Int} (hc : fl c) (hx : fl x) (hy : fl y) : solveL tMux [c, x, y, d] = [1, c, x, y, d, c * ((x + y * 2147483646) % 2147483647) % 2147483647] := by
  show [1, c, x, y, d] ++ [toldV [1, c, x, y, d] ⟨0, v1, dAB, 0⟩] = _
  unfold fl at hc hx hy
  have h1 : lval [1, c, x, y, d] v1 = c := by simp [lval, term, v1]; omega
  have h2 : lval [1, c, x, y, d] dAB = (x + y * 2147483646) % 2147483647 := by simp [lval, term, dAB]; omega
  simp [toldV, h1, h2]
theorem mux_sol {c x y d : Int} (hb : c = 0 ∨ c = 1) (hx : fl x) (hy : fl y) (hd : fl d) : solB tMux [c, x, y, d] = true ∧ toldL tMux [c, x, y, d] [zMux] = [if c = 1 then x else y] := by
  have hc : fl c := by unfold fl; omega
  have hs := mux_solve (d := d) hc hx hy
  have e : solB tMux [c, x, y, d] = true := by
    rw [solB_of tMux_sys rfl (fl4 hc hx hy hd), hs]
    unfold fl at hc hx hy
    have h1 : lval [1, c, x, y, d, c * ((x + y * 2147483646) % 2147483647) % 2147483647] v1 = c := by simp [lval, term, v1]; omega
    have h2 : lval [1, c, x, y, d, c * ((x + y * 2147483646) % 2147483647) % 2147483647] dAB = (x + y * 2147483646) % 2147483647 := by simp [lval, term, dAB]; omega
    have h3 : lval [1, c, x, y, d, c * ((x + y * 2147483646) % 2147483647) % 2147483647] [(5, 1)] = c * ((x + y * 2147483646) % 2147483647) % 2147483647 := by simp [lval, term]
    simp [tMux, allB, holdsB, h1, h2, h3]
  refine ⟨e, ?_⟩
  unfold toldL
  rw [if_pos e, hs]
  unfold fl at hx hy
  have h4 : lval [1, c, x, y, d, c * ((x + y * 2147483646) % 2147483647) % 2147483647] zMux = (y + c * ((x + y * 2147483646) % 2147483647) % 2147483647) % 2147483647 := by simp [lval, term, zMux]
  simp only [List.map_cons, List.map_nil, h4]
  rcases hb with rfl | rfl
  · simp; omega
  · simp; omega
theorem xor_solve {c x y d : Int} (hc : fl c) (hd : fl d) : solveL tXor [c, x, y, d] = [1, c, x, y, d, c * d % 2147483647] := by
  show [1, c, x, y, d] ++ [toldV [1, c, x, y, d] ⟨0, v1, w4L, 0⟩] = _
  unfold fl at hc hd
  have h1 : lval [1, c, x, y, d] v1 = c := by simp [lval, term, v1]; omega
  have h2 : lval [1, c, x, y, d] w4L = d := by simp [lval, term, w4L]; omega
  simp [toldV, h1, h2]
theorem xor_sol {c x y d : Int} (hb : c = 0 ∨ c = 1) (hx : fl x) (hy : fl y) (hd : d = 0 ∨ d = 1) : solB tXor [c, x, y, d] = true ∧ toldL tXor [c, x, y, d] [zXor] = [bits BinOp.xor IntKind.i64 c d] := by
  have hc : fl c := by unfold fl; omega
  have hdf : fl d := by unfold fl; omega
  have hs := xor_solve (x := x) (y := y) hc hdf
  have e : solB tXor [c, x, y, d] = true := by
    rw [solB_of tXor_sys rfl (fl4 hc hx hy hdf), hs]
    unfold fl at hc hdf
    have h1 : lval [1, c, x, y, d, c * d % 2147483647] v1 = c := by simp [lval, term, v1]; omega
    have h2 : lval [1, c, x, y, d, c * d % 2147483647] w4L = d := by simp [lval, term, w4L]; omega
    have h3 : lval [1, c, x, y, d, c * d % 2147483647] [(5, 1)] = c * d % 2147483647 := by simp [lval, term]
    simp [tXor, allB, holdsB, h1, h2, h3]
  refine ⟨e, ?_⟩
  unfold toldL
  rw [if_pos e, hs]
  have h4 : lval [1, c, x, y, d, c * d % 2147483647] zXor = (c + (d + c * d % 2147483647 * 2147483645)) % 2147483647 := by simp [lval, term, zXor, Int.mul_comm]
  simp only [List.map_cons, List.map_nil, h4]
  rcases hb with rfl | rfl <;> rcases hd with rfl | rfl <;> decide
end Go.Proofs.Ytcenijdaacbgpaa.L
