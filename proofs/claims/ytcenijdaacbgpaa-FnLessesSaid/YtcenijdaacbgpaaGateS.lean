/- AddLess over two inputs: what is added, and what it tells. -/
import Derived.Test.YtcenijdaacbgpaaB26
namespace Go.Proofs.Ytcenijdaacbgpaa.L
open Go.RowKit Go.Proofs.Ytcenijdaacbgpaa.S
set_option linter.unusedVariables false
set_option linter.unusedSimpArgs false

def tLess (n : Nat) : SysC := bSys (sysI 2) (lessB (sysI 2) ⟨[], [], 0⟩ v1 v2 n)
def zLess (n : Nat) : List T := lessBZ (sysI 2) ⟨[], [], 0⟩ v1 v2 n
def zbL (n : Nat) : List (List T) := (List.range (n + 1)).map fun j : Nat => varOf (3 + j)
def lessFacts (n : Nat) : Bool := mayL (sysI 2) [v1, v2] && bOk (lessB (sysI 2) ⟨[], [], 0⟩ v1 v2 n) && sysOk (tLess n) && packOk (zbL n) && linOk (packS (zbL n)) && linW (varsN (tLess n)) (zLess n) && linOk (mrg 2147483646 v1 v2) && linOk (constOf ((2 : Int) ^ n)) && linOk (lessBD v1 v2 n) && (lessBD v1 v2 n).all (fun t => decide (t.1.toNat < 3)) && linOk (varOf (3 + n))
set_option maxRecDepth 100000 in
theorem lessFacts_all : ((List.range 30).all lessFacts) = true := by kernel_rfl
set_option maxRecDepth 100000 in
theorem lessFacts_of {n : Nat} (h : n ≤ 29) : lessFacts n = true := List.all_eq_true.1 lessFacts_all n (List.mem_range.2 (by omega))
set_option maxRecDepth 100000 in
theorem lessBZ_var {n : Nat} (h : n ≤ 29) : zLess n = lcomb 2147483646 (constOf 1) (varOf (3 + n)) := by
  obtain ⟨-, h2⟩ := bits_hs (sysI 2) (lessBD v1 v2 n) (n + 1) (by show (1 : Int) + 2 + 0 + ((n + 1 : Nat) : Int) ≤ 3000; omega)
  unfold zLess lessBZ
  rw [h2, List.getD_eq_getElem?_getD, List.getElem?_map, List.getElem?_range (by omega)]
  rfl
set_option maxRecDepth 100000 in
theorem tLess_is {n : Nat} (h : n ≤ 29) : tLess n = ⟨2, [], bitHs (lessBD v1 v2 n) (n + 1), bitCs 3 (n + 1) ++ [⟨lcomb 2147483646 (packL (zbL n)) (lessBD v1 v2 n), constOf 1, []⟩]⟩ := by
  have hf := lessFacts_of h
  unfold lessFacts at hf
  simp only [Bool.and_eq_true] at hf
  obtain ⟨⟨⟨⟨⟨⟨⟨⟨⟨⟨-, hok⟩, -⟩, -⟩, -⟩, -⟩, -⟩, -⟩, -⟩, -⟩, -⟩ := hf
  obtain ⟨h1, h2⟩ := bits_hs (sysI 2) (lessBD v1 v2 n) (n + 1) (by show (1 : Int) + 2 + 0 + ((n + 1 : Nat) : Int) ≤ 3000; omega)
  obtain ⟨h3, -⟩ := bits_cs (sysI 2) (lessBD v1 v2 n) (n + 1) (by show (1 : Int) + 2 + 0 + ((n + 1 : Nat) : Int) ≤ 3000; omega) (by show 0 + (n + 1) ≤ 4000; omega)
  have hc : (bitCs 3 (n + 1)).length = n + 1 := by simp [bitCs]
  have hz : (bitsBK (sysI 2) ⟨[], [], 0⟩ (lessBD v1 v2 n) (n + 1)).2 = zbL n := h2
  have h3' : (bitsBK (sysI 2) ⟨[], [], 0⟩ (lessBD v1 v2 n) (n + 1)).1.cs = bitCs 3 (n + 1) := h3
  have e1 : (lessB (sysI 2) ⟨[], [], 0⟩ v1 v2 n).hs = bitHs (lessBD v1 v2 n) (n + 1) := h1
  have e2 : (lessB (sysI 2) ⟨[], [], 0⟩ v1 v2 n).cs = bitCs 3 (n + 1) ++ [⟨lcomb 2147483646 (packL (zbL n)) (lessBD v1 v2 n), constOf 1, []⟩] := by
    show (if 0 + (bitsBK (sysI 2) ⟨[], [], 0⟩ (lessBD v1 v2 n) (n + 1)).1.cs.length < 4000 then (bitsBK (sysI 2) ⟨[], [], 0⟩ (lessBD v1 v2 n) (n + 1)).1.cs ++ [⟨lcomb 2147483646 (packL (bitsBK (sysI 2) ⟨[], [], 0⟩ (lessBD v1 v2 n) (n + 1)).2) (lessBD v1 v2 n), constOf 1, []⟩] else (bitsBK (sysI 2) ⟨[], [], 0⟩ (lessBD v1 v2 n) (n + 1)).1.cs) = _
    rw [h3', hz, hc, if_pos (by omega)]
  unfold tLess bSys
  rw [if_pos hok, e1, e2]
  rfl
set_option maxRecDepth 100000 in
theorem pow29 {n : Nat} (h : n ≤ 29) : (1 : Int) ≤ 2 ^ n ∧ (2 : Int) ^ n ≤ 536870912 := by
  have h1 : (1 : Int) ≤ 2 ^ n := Int.pow_pos (by omega)
  have h3 : (2 : Nat) ^ n ≤ 536870912 := Nat.pow_le_pow_right (n := 2) (by omega) (show n ≤ 29 by omega)
  have h2 := Int.ofNat_le.2 h3
  rw [Int.natCast_pow] at h2
  exact ⟨h1, h2⟩
set_option maxRecDepth 100000 in
theorem sv_constOf (r : List Int) (k : Int) : sv (1 :: r) (constOf k) = k % 2147483647 := by
  unfold constOf
  split
  · rename_i h; rw [sv_nil, h]
  · simp [sv, term]
set_option maxRecDepth 100000 in
theorem less_val {x y : Int} (hx : fl x) (hy : fl y) {n : Nat} (h : n ≤ 29) (qx : x < 2 ^ n) (qy : y < 2 ^ n) : lval [1, x, y] (lessBD v1 v2 n) = x - y + 2 ^ n := by
  have hf := lessFacts_of h
  unfold lessFacts at hf
  simp only [Bool.and_eq_true] at hf
  obtain ⟨⟨⟨⟨⟨⟨⟨⟨⟨⟨-, -⟩, -⟩, -⟩, -⟩, -⟩, hm⟩, hc⟩, -⟩, -⟩, -⟩ := hf
  obtain ⟨p1, p2⟩ := pow29 h
  unfold lessBD
  rw [(lcomb_yes (k := 2147483646) (xs := v1) (ys := v2) (by kernel_rfl) (by kernel_rfl)).1, (lcomb_yes hm hc).1, lval_sv]
  have m1 := sv_mrg [1, x, y] 1 (mrg 2147483646 v1 v2) (constOf ((2 : Int) ^ n))
  have m2 := sv_mrg [1, x, y] 2147483646 v1 v2
  have s1 : sv [1, x, y] v1 = x := by simp [sv, term, v1]
  have s2 : sv [1, x, y] v2 = y := by simp [sv, term, v2]
  rw [sv_constOf] at m1
  rw [s1, s2] at m2
  unfold fl at hx hy
  generalize sv [1, x, y] (mrg 1 (mrg 2147483646 v1 v2) (constOf ((2 : Int) ^ n))) = a at *
  generalize sv [1, x, y] (mrg 2147483646 v1 v2) = b at *
  generalize (2 : Int) ^ n = t at *
  omega
set_option maxRecDepth 100000 in
theorem solB_less {x y : Int} (hx : fl x) (hy : fl y) {n : Nat} (h : n ≤ 29) (qx : x < 2 ^ n) (qy : y < 2 ^ n) : solveL (tLess n) [x, y] = [1, x, y] ++ bitVs (x - y + 2 ^ n) (n + 1) ∧ solB (tLess n) [x, y] = true := by
  have hv1 := less_val hx hy h qx qy
  have hf := lessFacts_of h
  unfold lessFacts at hf
  simp only [Bool.and_eq_true] at hf
  obtain ⟨⟨⟨⟨⟨⟨⟨⟨⟨⟨-, -⟩, hs⟩, hp⟩, hl⟩, -⟩, -⟩, -⟩, hd⟩, hall⟩, -⟩ := hf
  have hv : ∀ t ∈ lessBD v1 v2 n, t.1.toNat < ([1, x, y] : List Int).length := by
    intro t ht
    exact of_decide_eq_true (List.all_eq_true.1 hall t ht)
  have e : solveL (tLess n) [x, y] = [1, x, y] ++ bitVs (x - y + 2 ^ n) (n + 1) := by
    have q := solve_bits (base := [1, x, y]) hv (n + 1)
    rw [hv1] at q
    rw [tLess_is h]
    exact q
  refine ⟨e, ?_⟩
  rw [solB_of hs (by rw [tLess_is h]; rfl) (by intro z hz; simp only [List.mem_cons, List.not_mem_nil, or_false] at hz; rcases hz with rfl | rfl <;> assumption), e, tLess_is h]
  have qa := bits_all (base := [1, x, y]) (more := []) rfl (x - y + 2 ^ n) (k := n + 1) (by show 3 + (n + 1) ≤ 3000; omega)
  have ql := bits_last (base := [1, x, y]) (more := []) rfl hv (k := n + 1) (by show 3 + (n + 1) ≤ 3000; omega) hp hl hd
  rw [hv1] at ql
  rw [List.append_nil] at qa ql
  have qt : x - y + 2 ^ n < 2 ^ (n + 1) := by
    rw [Int.pow_succ]
    unfold fl at hx hy
    generalize (2 : Int) ^ n = t at *
    omega
  rw [decide_eq_true qt] at ql
  have qa' : allB ([1, x, y] ++ bitVs (x - y + 2 ^ n) (n + 1)) (bitCs 3 (n + 1)) = true := qa
  have ql' : holdsB ([1, x, y] ++ bitVs (x - y + 2 ^ n) (n + 1)) ⟨lcomb 2147483646 (packL (zbL n)) (lessBD v1 v2 n), constOf 1, []⟩ = true := ql
  unfold allB at qa' ⊢
  rw [List.all_append, qa']
  simp only [List.all_cons, List.all_nil, ql', Bool.true_and, Bool.and_true]
set_option maxRecDepth 100000 in
set_option maxHeartbeats 1600000 in
/-- Of numbers of n bits one is told to be less exactly if it is. -/
theorem told_less {x y : Int} (hx : fl x) (hy : fl y) {n : Nat} (h : n ≤ 29) (qx : x < 2 ^ n) (qy : y < 2 ^ n) : toldL (tLess n) [x, y] [zLess n] = [if x < y then 1 else 0] := by
  obtain ⟨e, hs⟩ := solB_less hx hy h qx qy
  have hf := lessFacts_of h
  unfold lessFacts at hf
  simp only [Bool.and_eq_true] at hf
  obtain ⟨-, hvo⟩ := hf
  have key : lval ([1, x, y] ++ bitVs (x - y + 2 ^ n) (n + 1)) (lcomb 2147483646 (constOf 1) (varOf (3 + n))) = if x < y then 1 else 0 := by
    rw [(lcomb_yes (k := 2147483646) (xs := constOf 1) (by kernel_rfl) hvo).1, lval_sv]
    have m := sv_mrg ([1, x, y] ++ bitVs (x - y + 2 ^ n) (n + 1)) 2147483646 (constOf 1) (varOf (3 + n))
    have s1 : sv ([1, x, y] ++ bitVs (x - y + 2 ^ n) (n + 1)) (constOf 1) = 1 := sv_constOf _ 1
    have s2 : sv ([1, x, y] ++ bitVs (x - y + 2 ^ n) (n + 1)) (varOf (3 + n)) = (x - y + 2 ^ n) / 2 ^ n % 2 := by
      rw [show (3 + (n : Int)) = ((3 + n : Nat) : Int) from by omega, sv_var (by omega), List.getElem?_append_right (by simp)]
      simp [bitVs]
    rw [s1, s2] at m
    generalize sv ([1, x, y] ++ bitVs (x - y + 2 ^ n) (n + 1)) (mrg 2147483646 (constOf 1) (varOf (3 + n))) = a at *
    obtain ⟨p1, p2⟩ := pow29 h
    unfold fl at hx hy
    by_cases q : x < y
    · have : (x - y + 2 ^ n) / 2 ^ n = 0 := Int.ediv_eq_zero_of_lt (by omega) (by omega)
      rw [this] at m
      rw [if_pos q]
      omega
    · have : (x - y + 2 ^ n) / 2 ^ n = 1 := by
        rw [Int.add_ediv_of_dvd_right (Int.dvd_refl _), Int.ediv_self (by omega), Int.ediv_eq_zero_of_lt (by omega) (by omega)]
        rfl
      rw [this] at m
      rw [if_neg q]
      omega
  unfold toldL
  rw [if_pos hs, e, lessBZ_var h, List.map_cons, List.map_nil, key]
set_option maxRecDepth 100000 in
theorem mask_at {a : Int} (h0 : 0 ≤ a) (h1 : a < 9223372036854775808) {n : Nat} (hn : n ≤ 30) : bits BinOp.and IntKind.i64 a (2 ^ n - 1) = a % 2 ^ n := by
  have h := bits_mask .i64 63 (by decide) (fun m h0 h1 => by rw [show (2 : Int) ^ 63 = 9223372036854775808 from by decide] at h1; rw [IntKind.wrap_i64]; omega) n (by omega) a h0 (by rw [show (2 : Int) ^ 63 = 9223372036854775808 from by decide]; exact h1)
  exact h
end Go.Proofs.Ytcenijdaacbgpaa.L
