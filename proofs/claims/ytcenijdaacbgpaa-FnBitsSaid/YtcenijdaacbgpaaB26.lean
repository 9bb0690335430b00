/- B26: GateX GateW GateV GateU -/
import Derived.Test.YtcenijdaacbgpaaGateG
import Derived.Test.YtcenijdaacbgpaaB23
set_option linter.unusedVariables false
set_option linter.unusedSimpArgs false
/- The bits of a combination over inputs: what the hints are, and what they tell. -/
namespace Go.Proofs.Ytcenijdaacbgpaa.L
open Go.RowKit Go.Proofs.Ytcenijdaacbgpaa.S
set_option linter.unusedVariables false
set_option linter.unusedSimpArgs false

theorem term_ext {xs ys : List Int} {t : T} (h : t.1.toNat < xs.length) : term (xs ++ ys) t = term xs t := by
  unfold term
  rw [List.getElem?_append_left h]
theorem lval_ext {xs ys : List Int} {ts : List T} (h : ∀ t ∈ ts, t.1.toNat < xs.length) : lval (xs ++ ys) ts = lval xs ts := by
  unfold lval
  rw [List.map_congr_left fun t ht => term_ext (ys := ys) (h t ht)]
/-- The hints of k bits of a combination. -/
def bitHs (x : List T) (k : Nat) : List HintC := (List.range k).map fun j : Nat => ⟨1, x, [], (j : Int)⟩
/-- The bits of a number. -/
def bitVs (a : Int) (k : Nat) : List Int := (List.range k).map fun j => a / 2 ^ j % 2
theorem bitHs_succ (x : List T) (k : Nat) : bitHs x (k + 1) = bitHs x k ++ [⟨1, x, [], (k : Int)⟩] := by simp [bitHs, List.range_succ]
theorem bitVs_succ (a : Int) (k : Nat) : bitVs a (k + 1) = bitVs a k ++ [a / 2 ^ k % 2] := by simp [bitVs, List.range_succ]
theorem bitVs_len (a : Int) (k : Nat) : (bitVs a k).length = k := by simp [bitVs]
theorem solve_bits {base : List Int} {x : List T} (h : ∀ t ∈ x, t.1.toNat < base.length) : ∀ k, solveF base (bitHs x k) = base ++ bitVs (lval base x) k := by
  intro k
  induction k with
  | zero => simp [bitHs, bitVs, solveF]
  | succ k ih =>
    rw [bitHs_succ, solveF_snoc, ih, bitVs_succ, List.append_assoc]
    congr 2
    simp [toldV, lval_ext h]
theorem bits_hs (s : SysC) (x : List T) : ∀ k : Nat, varsN s + k ≤ 3000 → (bitsBK s ⟨[], [], 0⟩ x k).1.hs = bitHs x k ∧ (bitsBK s ⟨[], [], 0⟩ x k).2 = (List.range k).map (fun j : Nat => varOf (varsN s + j)) := by
  intro k
  induction k with
  | zero => intro _; exact ⟨rfl, rfl⟩
  | succ k ih =>
    intro hk
    obtain ⟨h1, h2⟩ := ih (by omega)
    have hl : (bitHs x k).length = k := by simp [bitHs]
    refine ⟨?_, ?_⟩
    · show (if varsN s + ((bitsBK s ⟨[], [], 0⟩ x k).1.hs.length : Nat) < 3000 then (bitsBK s ⟨[], [], 0⟩ x k).1.hs ++ [⟨1, x, [], (k : Int)⟩] else (bitsBK s ⟨[], [], 0⟩ x k).1.hs) = _
      rw [h1, hl, if_pos (by omega), bitHs_succ]
    · show (bitsBK s ⟨[], [], 0⟩ x k).2 ++ [varOf (varsN s + ((bitsBK s ⟨[], [], 0⟩ x k).1.hs.length : Nat))] = _
      rw [h1, h2, hl, List.range_succ, List.map_append]
      rfl
theorem bits_sum_nat (m : Nat) : ∀ n, ((List.range n).map fun j => m / 2 ^ j % 2 * 2 ^ j).sum = m % 2 ^ n := by
  intro n
  induction n with
  | zero => simp [Nat.mod_one]
  | succ n ih =>
    rw [List.range_succ, List.map_append, List.sum_append, ih, Nat.pow_succ, Nat.mod_mul]
    simp [Nat.mul_comm]
/-- A number below a power of two is the sum of its bits. -/
theorem bits_sum {a : Int} (h : 0 ≤ a) (n : Nat) : ((List.range n).map fun j => a / 2 ^ j % 2 * 2 ^ j).sum = a % 2 ^ n := by
  obtain ⟨m, rfl⟩ := Int.eq_ofNat_of_zero_le h
  have e := congrArg (fun z : Nat => (z : Int)) (bits_sum_nat m n)
  replace e : ((((List.range n).map fun j => m / 2 ^ j % 2 * 2 ^ j).sum : Nat) : Int) = ((m % 2 ^ n : Nat) : Int) := e
  rw [Int.natCast_emod, Int.natCast_pow] at e
  rw [show ((2 : Nat) : Int) = 2 from rfl] at e
  rw [← e]
  clear e h
  induction n with
  | zero => rfl
  | succ n ih => rw [List.range_succ, List.map_append, List.map_append, List.sum_append, List.sum_append, ih]; simp
end Go.Proofs.Ytcenijdaacbgpaa.L

/- The value of packed bits. -/
namespace Go.Proofs.Ytcenijdaacbgpaa.L
open Go.RowKit Go.Proofs.Ytcenijdaacbgpaa.S
set_option linter.unusedVariables false
set_option linter.unusedSimpArgs false

/-- The sum of values by powers of two from i on. -/
def psv (xs : List Int) : Nat → List (List T) → Int
  | _, [] => 0
  | i, b :: r => (2 : Int) ^ i * sv xs b + psv xs (i + 1) r
theorem sv_pack (xs : List Int) : ∀ (ls : List (List T)) (i : Nat) (acc : List T), (2147483647 : Int) ∣ sv xs (packF mrg i acc ls) - (sv xs acc + psv xs i ls) := by
  intro ls
  induction ls with
  | nil => intro i acc; simp [packF, psv]
  | cons b r ih =>
    intro i acc
    have h1 := ih (i + 1) (mrg ((2 : Int) ^ i) acc b)
    have h2 := sv_mrg xs ((2 : Int) ^ i) acc b
    show (2147483647 : Int) ∣ sv xs (packF mrg (i + 1) (mrg ((2 : Int) ^ i) acc b) r) - (sv xs acc + ((2 : Int) ^ i * sv xs b + psv xs (i + 1) r))
    generalize (2 : Int) ^ i * sv xs b = t at *
    generalize sv xs (packF mrg (i + 1) (mrg ((2 : Int) ^ i) acc b) r) = s at *
    generalize sv xs (mrg ((2 : Int) ^ i) acc b) = u at *
    omega
theorem psv_snoc (xs : List Int) (b : List T) : ∀ (l : List (List T)) (i : Nat), psv xs i (l ++ [b]) = psv xs i l + (2 : Int) ^ (i + l.length) * sv xs b := by
  intro l
  induction l with
  | nil => intro i; simp [psv]
  | cons a r ih =>
    intro i
    show (2 : Int) ^ i * sv xs a + psv xs (i + 1) (r ++ [b]) = (2 : Int) ^ i * sv xs a + psv xs (i + 1) r + (2 : Int) ^ (i + (r.length + 1)) * sv xs b
    rw [ih, show i + 1 + r.length = i + (r.length + 1) from by omega, Int.add_assoc]
theorem psv_range (xs : List Int) (f : Nat → List T) : ∀ k, psv xs 0 ((List.range k).map f) = ((List.range k).map fun j => sv xs (f j) * (2 : Int) ^ j).sum := by
  intro k
  induction k with
  | zero => rfl
  | succ k ih => rw [List.range_succ, List.map_append, List.map_append, List.sum_append, List.map_singleton, psv_snoc, ih]; simp [Int.mul_comm]
theorem sv_var {xs : List Int} {v : Nat} (h : v < 3000) : sv xs (varOf v) = xs[v]?.getD 0 := by
  unfold varOf
  rw [if_pos (by omega)]
  simp [sv, term]
/-- The packed bits of a are a, below the power: whatever the values behind are. -/
theorem sv_bits {base more : List Int} {a : Int} (ha : 0 ≤ a) {k : Nat} (hk : base.length + k ≤ 3000) :
    (2147483647 : Int) ∣ sv (base ++ bitVs a k ++ more) (packS ((List.range k).map fun j : Nat => varOf ((base.length : Int) + j))) - a % 2 ^ k := by
  have h := sv_pack (base ++ bitVs a k ++ more) ((List.range k).map fun j : Nat => varOf ((base.length : Int) + j)) 0 []
  rw [psv_range, sv_nil] at h
  have e : ((List.range k).map fun j : Nat => sv (base ++ bitVs a k ++ more) (varOf ((base.length : Int) + j)) * (2 : Int) ^ j) = (List.range k).map fun j => a / 2 ^ j % 2 * 2 ^ j := by
    refine List.map_congr_left fun j hj => ?_
    have hj' : j < k := List.mem_range.1 hj
    rw [show ((base.length : Int) + (j : Int)) = ((base.length + j : Nat) : Int) from by omega, sv_var (by omega)]
    have hl : base.length + j < (base ++ bitVs a k).length := by rw [List.length_append, bitVs_len]; omega
    rw [List.getElem?_append_left hl, List.getElem?_append_right (by omega)]
    simp [bitVs, hj']
  rw [e, bits_sum ha] at h
  simpa [packS] using h
end Go.Proofs.Ytcenijdaacbgpaa.L

/- The constraints of bits: each bit is one, and together they are the number exactly if it has no more. -/
namespace Go.Proofs.Ytcenijdaacbgpaa.L
open Go.RowKit Go.Proofs.Ytcenijdaacbgpaa.S
set_option linter.unusedVariables false
set_option linter.unusedSimpArgs false

def bitC (v : Int) : ConC := ⟨varOf v, lcomb 2147483646 (varOf v) (constOf 1), []⟩
def bitCs (v : Int) (k : Nat) : List ConC := (List.range k).map fun j : Nat => bitC (v + j)
theorem bits_cs (s : SysC) (x : List T) : ∀ k : Nat, varsN s + k ≤ 3000 → s.cons.length + k ≤ 4000 → (bitsBK s ⟨[], [], 0⟩ x k).1.cs = bitCs (varsN s) k ∧ (bitsBK s ⟨[], [], 0⟩ x k).1.n = 2 * k := by
  intro k
  induction k with
  | zero => intro _ _; exact ⟨rfl, rfl⟩
  | succ k ih =>
    intro hk hk2
    obtain ⟨h1, h2⟩ := ih (by omega) (by omega)
    obtain ⟨h3, -⟩ := bits_hs s x k (by omega)
    have hl : (bitHs x k).length = k := by simp [bitHs]
    have hc : (bitCs (varsN s) k).length = k := by simp [bitCs]
    refine ⟨?_, ?_⟩
    · show (if s.cons.length + (bitsBK s ⟨[], [], 0⟩ x k).1.cs.length < 4000 then (bitsBK s ⟨[], [], 0⟩ x k).1.cs ++ [bitC (varsN s + ((bitsBK s ⟨[], [], 0⟩ x k).1.hs.length : Nat))] else (bitsBK s ⟨[], [], 0⟩ x k).1.cs) = _
      rw [h1, h3, hl, hc, if_pos (by omega)]
      simp [bitCs, List.range_succ]
    · show (bitsBK s ⟨[], [], 0⟩ x k).1.n + 1 + 1 = _
      omega
theorem bit_holds {xs : List Int} {v : Nat} (hv : v < 3000) (h0 : xs[0]? = some 1) (hb : xs[v]?.getD 0 = 0 ∨ xs[v]?.getD 0 = 1) : holdsB xs (bitC v) = true := by
  have hs := sv_var (xs := xs) hv
  have hc : sv xs (constOf 1) = 1 := by simp [sv, constOf, term, h0]
  have e0 : lval xs [] = 0 := rfl
  have key : lval xs (varOf v) * lval xs (lcomb 2147483646 (varOf v) (constOf 1)) % 2147483647 = 0 := by
    unfold lcomb
    split
    · have hm := sv_mrg xs 2147483646 (varOf v) (constOf 1)
      rw [hc, hs] at hm
      rw [lval_sv, lval_sv, hs]
      generalize sv xs (mrg 2147483646 (varOf v) (constOf 1)) = u at *
      rcases hb with hb | hb
      · rw [hb]; simp
      · rw [hb] at hm ⊢; omega
    · rw [e0]; simp
  unfold holdsB bitC
  simp only [key, e0]
  rfl
theorem lval_one {xs : List Int} (h0 : xs[0]? = some 1) : lval xs (constOf 1) = 1 := by simp [lval, constOf, term, h0]
theorem bits_all {base more : List Int} (h0 : base[0]? = some 1) (a : Int) {k : Nat} (hk : base.length + k ≤ 3000) : allB (base ++ bitVs a k ++ more) (bitCs (base.length : Int) k) = true := by
  unfold allB bitCs
  rw [List.all_map, List.all_eq_true]
  intro j hj
  have hj' : j < k := List.mem_range.1 hj
  show holdsB _ (bitC ((base.length : Int) + (j : Int))) = true
  rw [show ((base.length : Int) + (j : Int)) = ((base.length + j : Nat) : Int) from by omega]
  have hb0 : 0 < base.length := by cases base with | nil => simp at h0 | cons _ _ => simp
  refine bit_holds (by omega) ?_ ?_
  · rw [List.getElem?_append_left (by rw [List.length_append]; omega), List.getElem?_append_left hb0]; exact h0
  · have hl : base.length + j < (base ++ bitVs a k).length := by rw [List.length_append, bitVs_len]; omega
    rw [List.getElem?_append_left hl, List.getElem?_append_right (by omega)]
    have hb := Int.emod_two_eq (a / 2 ^ j)
    simpa [bitVs, hj'] using hb
/-- The last constraint: the bits make the number. -/
theorem bits_last {base more : List Int} (h0 : base[0]? = some 1) {x : List T} (hx : ∀ t ∈ x, t.1.toNat < base.length) {k : Nat} (hk : base.length + k ≤ 3000)
    (ok1 : packOk ((List.range k).map fun j : Nat => varOf ((base.length : Int) + j)) = true) (ok2 : linOk (packS ((List.range k).map fun j : Nat => varOf ((base.length : Int) + j))) = true) (ok3 : linOk x = true) :
    holdsB (base ++ bitVs (lval base x) k ++ more) ⟨lcomb 2147483646 (packL ((List.range k).map fun j : Nat => varOf ((base.length : Int) + j))) x, constOf 1, []⟩ = decide (lval base x < 2 ^ k) := by
  have hb0 : 0 < base.length := by cases base with | nil => simp at h0 | cons _ _ => simp
  have h00 : (base ++ bitVs (lval base x) k ++ more)[0]? = some 1 := by rw [List.getElem?_append_left (by rw [List.length_append]; omega), List.getElem?_append_left hb0]; exact h0
  obtain ⟨b0, b1⟩ := lval_bd base x
  have hp := sv_bits (base := base) (more := more) b0 hk
  have hm := sv_mrg (base ++ bitVs (lval base x) k ++ more) 2147483646 (packS ((List.range k).map fun j : Nat => varOf ((base.length : Int) + j))) x
  have he : lval (base ++ bitVs (lval base x) k ++ more) x = lval base x := by rw [List.append_assoc]; exact lval_ext hx
  rw [lval_sv] at he
  have h1 : lval (base ++ bitVs (lval base x) k ++ more) (constOf 1) = 1 := lval_one h00
  have e0 : lval (base ++ bitVs (lval base x) k ++ more) [] = 0 := rfl
  unfold holdsB
  simp only [e0, h1]
  unfold packL lcomb
  rw [if_pos ok1, ok2, ok3]
  simp only [Bool.and_self, if_true]
  rw [lval_sv]
  have q0 : 0 ≤ lval base x % 2 ^ k := Int.emod_nonneg _ (Int.ne_of_gt (Int.pow_pos (by omega)))
  have q1 : lval base x < 2 ^ k → lval base x % 2 ^ k = lval base x := fun h => Int.emod_eq_of_lt b0 h
  have q2 : ¬ lval base x < 2 ^ k → lval base x % 2 ^ k < lval base x := fun h => by
    have := Int.emod_lt_of_pos (lval base x) (show (0 : Int) < 2 ^ k from Int.pow_pos (by omega))
    omega
  generalize lval base x % 2 ^ k = r at *
  generalize sv (base ++ bitVs (lval base x) k ++ more) (mrg 2147483646 (packS ((List.range k).map fun j : Nat => varOf ((base.length : Int) + j))) x) = u at *
  generalize sv (base ++ bitVs (lval base x) k ++ more) (packS ((List.range k).map fun j : Nat => varOf ((base.length : Int) + j))) = v at *
  generalize sv (base ++ bitVs (lval base x) k ++ more) x = z at *
  generalize lval base x = a at *
  by_cases q : a < 2 ^ k
  · have e := q1 q
    have : u % 2147483647 * 1 % 2147483647 = 0 := by omega
    rw [this]; simp [q]
  · have e := q2 q
    have : ¬ u % 2147483647 * 1 % 2147483647 = 0 := by omega
    simp [q]; omega
end Go.Proofs.Ytcenijdaacbgpaa.L

/- AddBits over one input: what is added, and what solves it. -/
namespace Go.Proofs.Ytcenijdaacbgpaa.L
open Go.RowKit Go.Proofs.Ytcenijdaacbgpaa.S
set_option linter.unusedVariables false
set_option linter.unusedSimpArgs false

def tBits (n : Nat) : SysC := bSys (sysI 1) (bitsB (sysI 1) ⟨[], [], 0⟩ v1 n)
def zBits (n : Nat) : List (List T) := (List.range n).map fun j : Nat => varOf (2 + j)
def bitsFacts (n : Nat) : Bool := mayL (sysI 1) [v1] && bOk (bitsB (sysI 1) ⟨[], [], 0⟩ v1 n) && sysOk (tBits n) && packOk (zBits n) && linOk (packS (zBits n)) && (zBits n).all (linW (varsN (tBits n)))
set_option maxRecDepth 100000 in
theorem bitsFacts_all : ((List.range 31).all bitsFacts) = true := by kernel_rfl
theorem bitsFacts_of {n : Nat} (h : n ≤ 30) : bitsFacts n = true := List.all_eq_true.1 bitsFacts_all n (List.mem_range.2 (by omega))
theorem tBits_is {n : Nat} (h : n ≤ 30) : tBits n = ⟨1, [], bitHs v1 n, bitCs 2 n ++ [⟨lcomb 2147483646 (packL (zBits n)) v1, constOf 1, []⟩]⟩ := by
  have hf := bitsFacts_of h
  unfold bitsFacts at hf
  simp only [Bool.and_eq_true] at hf
  obtain ⟨⟨⟨⟨⟨-, hok⟩, -⟩, -⟩, -⟩, -⟩ := hf
  obtain ⟨h1, h2⟩ := bits_hs (sysI 1) v1 n (by show (1 : Int) + 1 + 0 + n ≤ 3000; omega)
  obtain ⟨h3, -⟩ := bits_cs (sysI 1) v1 n (by show (1 : Int) + 1 + 0 + n ≤ 3000; omega) (by show 0 + n ≤ 4000; omega)
  have hc : (bitCs 2 n).length = n := by simp [bitCs]
  have hz : (bitsBK (sysI 1) ⟨[], [], 0⟩ v1 n).2 = zBits n := h2
  have h3' : (bitsBK (sysI 1) ⟨[], [], 0⟩ v1 n).1.cs = bitCs 2 n := h3
  have e1 : (bitsB (sysI 1) ⟨[], [], 0⟩ v1 n).hs = bitHs v1 n := h1
  have e2 : (bitsB (sysI 1) ⟨[], [], 0⟩ v1 n).cs = bitCs 2 n ++ [⟨lcomb 2147483646 (packL (zBits n)) v1, constOf 1, []⟩] := by
    show (if 0 + (bitsBK (sysI 1) ⟨[], [], 0⟩ v1 n).1.cs.length < 4000 then (bitsBK (sysI 1) ⟨[], [], 0⟩ v1 n).1.cs ++ [⟨lcomb 2147483646 (packL (bitsBK (sysI 1) ⟨[], [], 0⟩ v1 n).2) v1, constOf 1, []⟩] else (bitsBK (sysI 1) ⟨[], [], 0⟩ v1 n).1.cs) = _
    rw [h3', hz, hc, if_pos (by omega)]
  unfold tBits bSys
  rw [if_pos hok, e1, e2]
  rfl
/-- A number has just its bits exactly if it has no more. -/
theorem solB_bits {x : Int} (hx : fl x) {n : Nat} (h : n ≤ 30) : solveL (tBits n) [x] = [1, x] ++ bitVs x n ∧ solB (tBits n) [x] = decide (x < 2 ^ n) := by
  have hf := bitsFacts_of h
  unfold bitsFacts at hf
  simp only [Bool.and_eq_true] at hf
  obtain ⟨⟨⟨⟨⟨-, -⟩, hs⟩, hp⟩, hl⟩, -⟩ := hf
  have hv : ∀ t ∈ v1, t.1.toNat < ([1, x] : List Int).length := by intro t ht; simp [v1] at ht; subst ht; simp
  have h1 : lval [1, x] v1 = x := by unfold fl at hx; simp [lval, term, v1]; omega
  have e : solveL (tBits n) [x] = [1, x] ++ bitVs x n := by
    have q := solve_bits (base := [1, x]) hv n
    rw [h1] at q
    rw [tBits_is h]
    exact q
  refine ⟨e, ?_⟩
  rw [solB_of hs (by rw [tBits_is h]; rfl) (by intro z hz; rw [List.mem_singleton] at hz; rw [hz]; exact hx), e, tBits_is h]
  have qa := bits_all (base := [1, x]) (more := []) rfl x (k := n) (by show 2 + n ≤ 3000; omega)
  have ql := bits_last (base := [1, x]) (more := []) rfl hv (k := n) (by show 2 + n ≤ 3000; omega) hp hl (by kernel_rfl)
  rw [h1] at ql
  rw [List.append_nil] at qa ql
  have qa' : allB ([1, x] ++ bitVs x n) (bitCs 2 n) = true := qa
  have ql' : holdsB ([1, x] ++ bitVs x n) ⟨lcomb 2147483646 (packL (zBits n)) v1, constOf 1, []⟩ = decide (x < 2 ^ n) := ql
  unfold allB at qa' ⊢
  rw [List.all_append, qa']
  simp only [List.all_cons, List.all_nil, ql', Bool.true_and, Bool.and_true]
/-- What is told of the bits. -/
theorem told_bits {x : Int} (hx : fl x) {n : Nat} (h : n ≤ 30) : toldL (tBits n) [x] (zBits n) = if x < 2 ^ n then bitVs x n else [] := by
  obtain ⟨e, hs⟩ := solB_bits hx h
  unfold toldL
  rw [hs, e]
  by_cases q : x < 2 ^ n
  · rw [if_pos (decide_eq_true q), if_pos q]
    unfold zBits bitVs
    rw [List.map_map]
    refine List.map_congr_left fun j hj => ?_
    have hj' : j < n := List.mem_range.1 hj
    show lval _ (varOf (2 + (j : Int))) = _
    rw [show (2 + (j : Int)) = ((2 + j : Nat) : Int) from by omega, lval_sv, sv_var (by omega), List.getElem?_append_right (by simp)]
    simp [hj']
    omega
  · rw [if_neg q, if_neg (by simp [q])]
/-- What is told of the packed bits. -/
theorem told_pack {x : Int} (hx : fl x) {n : Nat} (h : n ≤ 30) : toldL (tBits n) [x] [packL (zBits n)] = if x < 2 ^ n then [x] else [] := by
  obtain ⟨e, hs⟩ := solB_bits hx h
  have hf := bitsFacts_of h
  unfold bitsFacts at hf
  simp only [Bool.and_eq_true] at hf
  obtain ⟨⟨⟨⟨⟨-, -⟩, -⟩, hp⟩, -⟩, -⟩ := hf
  have hx' := hx
  unfold fl at hx'
  unfold toldL
  rw [hs, e]
  by_cases q : x < 2 ^ n
  · rw [if_pos (decide_eq_true q), if_pos q]
    have hb := sv_bits (base := [1, x]) (more := []) (a := x) (by omega) (k := n) (by show 2 + n ≤ 3000; omega)
    rw [Int.emod_eq_of_lt (by omega) q, List.append_nil] at hb
    have hb' : (2147483647 : Int) ∣ sv ([1, x] ++ bitVs x n) (packS (zBits n)) - x := hb
    unfold packL
    rw [if_pos hp]
    simp only [List.map_cons, List.map_nil, lval_sv]
    generalize sv ([1, x] ++ bitVs x n) (packS (zBits n)) = u at *
    congr 1
    omega
  · rw [if_neg q, if_neg (by simp [q])]
end Go.Proofs.Ytcenijdaacbgpaa.L
