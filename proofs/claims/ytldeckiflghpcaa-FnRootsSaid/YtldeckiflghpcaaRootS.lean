/- The path's root: what it is; the model's. -/
import Derived.Test.YtldeckiflghpcaaMixR
import Derived.Test.YtldeckiflghpcaaNumS
namespace Go.Proofs.Ytldeckiflghpcaa.L
open Go.RowKit Go.Proofs.Ytldeckiflghpcaa.S
set_option linter.unusedVariables false
set_option linter.unusedSimpArgs false

def okB (x : List Int) (b : Int) : Bool := fourB x && decide (0 ≤ b) && decide (b ≤ 1)
def okAt (path : List (List Int)) (bits : List Int) (k : Nat) : Bool := okB (path[k]?.getD []) (bits[k]?.getD 0)
def okTo (path : List (List Int)) (bits : List Int) : Nat → Bool
  | 0 => true
  | k + 1 => okTo path bits k && okAt path bits k
def headB (leaf : List Int) (path : List (List Int)) (bits : List Int) : Bool := fourB leaf && decide (path.length ≤ 3) && decide (bits.length = path.length)
def pathB (leaf : List Int) (path : List (List Int)) (bits : List Int) : Bool := headB leaf path bits && okTo path bits path.length
theorem okTo_le {path : List (List Int)} {bits : List Int} {n : Nat} (h : okTo path bits n = true) : ∀ k, k < n → okAt path bits k = true := by
  induction n with
  | zero => intro k hk; omega
  | succ n ih =>
    intro k hk
    simp only [okTo, Bool.and_eq_true] at h
    by_cases e : k = n
    · subst e; exact h.2
    · exact ih h.1 k (by omega)
theorem pathB_no {leaf : List Int} {path : List (List Int)} {bits : List Int} {k : Nat} (hk : k < path.length) (h : okAt path bits k = false) : pathB leaf path bits = false := by
  cases hp : pathB leaf path bits with
  | false => rfl
  | true =>
    unfold pathB at hp
    simp only [Bool.and_eq_true] at hp
    have := okTo_le hp.2 k hk
    rw [h] at this; cases this
theorem headB_no {leaf : List Int} {path : List (List Int)} {bits : List Int} (h : headB leaf path bits = false) : pathB leaf path bits = false := by unfold pathB; rw [h]; rfl
theorem pathB_yes {leaf : List Int} {path : List (List Int)} {bits : List Int} (h : headB leaf path bits = true) (k : okTo path bits path.length = true) : pathB leaf path bits = true := by unfold pathB; rw [h, k]; rfl
theorem okTo_step {path : List (List Int)} {bits : List Int} {k : Nat} (h : okTo path bits k = true) (a : okAt path bits k = true) : okTo path bits (k + 1) = true := by simp [okTo, h, a]
theorem okAt_eq {path : List (List Int)} {bits : List Int} {k : Nat} {b : Int} (hk : k < path.length) (hb : bits[k]? = some b) : okAt path bits k = okB path[k] b := by
  unfold okAt; rw [List.getElem?_eq_getElem hk, hb]; rfl
def upL (c e : List Int) (b : Int) : List Int := if b = 1 then mixM (e ++ c) else mixM (c ++ e)
def rootAt (leaf : List Int) (path : List (List Int)) (bits : List Int) : Nat → List Int
  | 0 => leaf
  | k + 1 => upL (rootAt leaf path bits k) (path[k]?.getD []) (bits[k]?.getD 0)
theorem rootAt_step {leaf : List Int} {path : List (List Int)} {bits : List Int} {k : Nat} {b : Int} (hk : k < path.length) (hb : bits[k]? = some b) : rootAt leaf path bits (k + 1) = upL (rootAt leaf path bits k) path[k] b := by
  simp only [rootAt]; rw [List.getElem?_eq_getElem hk, hb]; rfl
theorem isFour.fourB' {h : List Int} (q : isFour h) : fourB h = true := by
  obtain ⟨h0, h1, h2, h3, rfl, b0, b1, b2, b3⟩ := q
  unfold L.fourB allB
  simp [b0, b1, b2, b3]
theorem eight {x y : List Int} (hx : isFour x) (hy : isFour y) : (x ++ y).length = 8 ∧ allB (x ++ y) = true := by
  obtain ⟨x0, x1, x2, x3, rfl, p0, p1, p2, p3⟩ := hx
  obtain ⟨y0, y1, y2, y3, rfl, q0, q1, q2, q3⟩ := hy
  unfold allB
  simp [p0, p1, p2, p3, q0, q1, q2, q3]
theorem upL_four {c e : List Int} {b : Int} (hc : isFour c) (he : isFour e) : isFour (upL c e b) := by
  unfold upL
  split
  · exact mixM_four (by rw [(eight he hc).1]; omega) (eight he hc).2
  · exact mixM_four (by rw [(eight hc he).1]; omega) (eight hc he).2
theorem rootAt_four {leaf : List Int} {path : List (List Int)} {bits : List Int} {k : Nat} (h : isFour leaf) (ok : okTo path bits k = true) : isFour (rootAt leaf path bits k) := by
  induction k with
  | zero => exact h
  | succ k ih =>
    simp only [okTo, Bool.and_eq_true] at ok
    have a := ok.2
    unfold okAt okB at a
    simp only [Bool.and_eq_true] at a
    exact upL_four (ih ok.1) (fourB_elim a.1.1)
def rootL (leaf : List Int) (path : List (List Int)) (bits : List Int) : List Int := if pathB leaf path bits = true then rootAt leaf path bits path.length else []
theorem rootL_no {leaf : List Int} {path : List (List Int)} {bits : List Int} (h : pathB leaf path bits = false) : rootL leaf path bits = [] := by unfold rootL; rw [h]; rfl
theorem rootL_yes {leaf : List Int} {path : List (List Int)} {bits : List Int} (h : pathB leaf path bits = true) : rootL leaf path bits = rootAt leaf path bits path.length := by unfold rootL; rw [h]; rfl

set_option maxRecDepth 100000 in
set_option maxHeartbeats 3200000 in
theorem l5path_any (o l h lim1 lim2 v0 v1 v2) (leaf : List Int) (path : List (List Int)) (bits : List Int) (w : World) (t0 : Ints lim1 w v0 leaf) (t1 : IntSS o l h w v1 path) (t2 : Ints lim2 w v2 bits) (hw : h ≤ w.heap.size) :
    Calls Try.prog 42 #[v0, v1, v2] w fun e w' => e = .returned (.bool (pathB leaf path bits)) ∧ w = w' := by
  obtain ⟨a0, k0, rfl, l0, b0⟩ := t0.shape
  obtain ⟨a1, k1, rfl, l1, b1⟩ := t1.shape
  obtain ⟨a2, k2, rfl, l2, b2⟩ := t2.shape
  have HC := l5bytes_any lim1 (.slice a0 leaf.length k0) leaf w t0
  by_cases hl : leaf.length = 4
  case' neg =>
    have e4 : ((leaf.length : Int) != 4) = true := by simp; omega
    have HF := Lib.hid (headB_no (leaf := leaf) (path := path) (bits := bits) (by unfold headB fourB; simp [hl]))
    clear hl HC
    go_enter Try.func42, Try.ntmps42
    go_wp2_with fail
    go_ret
    exact ⟨ret_bool HF.out.symm, rfl⟩
  have e4 : ((leaf.length : Int) != 4) = false := by simp; omega
  by_cases hb : allB leaf = true
  case' neg =>
    have hb' : allB leaf = false := by simpa using hb
    have HF := Lib.hid (headB_no (leaf := leaf) (path := path) (bits := bits) (by unfold headB fourB; simp [hb']))
    rw [hb'] at HC
    have HD := Lib.hid HC
    clear hb hb' HC hl
    go_enter Try.func42, Try.ntmps42
    go_wp2_with fail
    refine HD.out.mono ?_; rintro e w1 ⟨rfl, rfl⟩
    go_wp2_with fail
    go_ret
    exact ⟨ret_bool HF.out.symm, rfl⟩
  rw [hb] at HC
  have HD := Lib.hid HC
  have H4 := Lib.hid (show fourB leaf = true by unfold fourB; simp [hl, hb])
  clear hb HC hl
  by_cases h3 : path.length ≤ 3
  case' neg =>
    have e8 : decide (3 < path.length) = true := decide_eq_true (by omega)
    have HF := Lib.hid (headB_no (leaf := leaf) (path := path) (bits := bits) (by unfold headB; simp [h3]))
    go_enter Try.func42, Try.ntmps42
    go_wp2_with fail
    refine HD.out.mono ?_; rintro e w1 ⟨rfl, rfl⟩
    go_wp2_with fail
    go_ret
    exact ⟨ret_bool HF.out.symm, rfl⟩
  have e8 : decide (3 < path.length) = false := decide_eq_false (by omega)
  by_cases hs : bits.length = path.length
  case' neg =>
    have e9 : ((bits.length : Int) != (path.length : Int)) = true := by simp; omega
    have HF := Lib.hid (headB_no (leaf := leaf) (path := path) (bits := bits) (by unfold headB; simp [hs]))
    clear hs
    go_enter Try.func42, Try.ntmps42
    go_wp2_with fail
    refine HD.out.mono ?_; rintro e w1 ⟨rfl, rfl⟩
    go_wp2_with fail
    go_ret
    exact ⟨ret_bool HF.out.symm, rfl⟩
  have e9 : ((bits.length : Int) != (path.length : Int)) = false := by simp; omega
  have HS := Lib.hid hs
  have HH := Lib.hid (show headB leaf path bits = true by unfold headB; simp [H4.out, h3, hs])
  clear hs
  go_enter Try.func42, Try.ntmps42
  go_wp2_with fail
  refine HD.out.mono ?_; rintro e w1 ⟨rfl, rfl⟩
  go_wp2_with fail
  clear e4 e8 e9 HD
  go_loop [7] (fun i => ∃ k : Nat, k ≤ path.length ∧ i = .int .i64 k ∧ okTo path bits k = true) (fun i => path.length - (intOf i).toNat)
  case atStart => exact ⟨0, Nat.zero_le _, rfl, rfl⟩
  case round =>
    obtain ⟨k, hk, rfl, ho⟩ := hrel
    have HO := Lib.hid ho
    clear ho
    by_cases hlt : k < path.length
    · have hlt2 : k < bits.length := by rw [HS.out]; exact hlt
      obtain ⟨bb, off, u, rfl, q1, q2, c1, tu⟩ := t1.at hlt
      obtain ⟨a3, k3, rfl, l3, b3⟩ := tu.shape
      obtain ⟨bc, of2, b, rfl, -, c2, eb, fb⟩ := t2.at hlt2
      have HA := Lib.hid (okAt_eq hlt eb)
      have HC := l5bytes_any h (.slice a3 path[k].length k3) path[k] w tu.ints
      clear eb
      by_cases hl : path[k].length = 4
      case' neg =>
        have e4 : ((path[k].length : Int) != 4) = true := by simp; omega
        have HF := Lib.hid (pathB_no (leaf := leaf) hlt (by rw [HA.out]; unfold okB fourB; simp [hl]))
        clear hl HC
        go_wp2_with fail
        go_ret
        exact ⟨ret_bool HF.out.symm, rfl⟩
      have e4 : ((path[k].length : Int) != 4) = false := by simp; omega
      by_cases hb : allB path[k] = true
      case' neg =>
        have hb' : allB path[k] = false := by simpa using hb
        have HF := Lib.hid (pathB_no (leaf := leaf) hlt (by rw [HA.out]; unfold okB fourB; simp [hb']))
        rw [hb'] at HC
        have HD := Lib.hid HC
        clear hb hb' HC hl
        go_wp2_with fail
        refine HD.out.mono ?_; rintro e w1 ⟨rfl, rfl⟩
        go_wp2_with fail
        go_ret
        exact ⟨ret_bool HF.out.symm, rfl⟩
      rw [hb] at HC
      have HD := Lib.hid HC
      have H4 := Lib.hid (show fourB path[k] = true by unfold fourB; simp [hl, hb])
      clear hb HC hl
      by_cases g0 : b < 0
      · have d0 : decide (b < 0) = true := decide_eq_true g0
        have HF := Lib.hid (pathB_no (leaf := leaf) hlt (by rw [HA.out]; unfold okB; simp; intro _ _; omega))
        go_wp2_with fail
        refine HD.out.mono ?_; rintro e w1 ⟨rfl, rfl⟩
        go_wp2_with fail
        go_ret
        exact ⟨ret_bool HF.out.symm, rfl⟩
      have d0 : decide (b < 0) = false := decide_eq_false g0
      by_cases g1 : 1 < b
      · have d1 : decide (1 < b) = true := decide_eq_true g1
        have HF := Lib.hid (pathB_no (leaf := leaf) hlt (by rw [HA.out]; unfold okB; simp; intro _ _; omega))
        go_wp2_with fail
        refine HD.out.mono ?_; rintro e w1 ⟨rfl, rfl⟩
        go_wp2_with fail
        go_ret
        exact ⟨ret_bool HF.out.symm, rfl⟩
      have d1 : decide (1 < b) = false := decide_eq_false g1
      have HF := Lib.hid (okTo_step HO.out (by rw [HA.out]; unfold okB; simp [H4.out]; omega))
      go_wp2_with fail
      refine HD.out.mono ?_; rintro e w1 ⟨rfl, rfl⟩
      go_wp2_with fail
      go_round
      case rel => exact ⟨k + 1, by omega, by go_num, HF.out⟩
      case measure => simp [intOf]; omega
    · obtain rfl : k = path.length := by omega
      have HF := Lib.hid (pathB_yes HH.out HO.out)
      go_wp2_with fail
      go_ret
      exact ⟨ret_bool HF.out.symm, rfl⟩
end Go.Proofs.Ytldeckiflghpcaa.L
