/- B25: Told GateF -/
import Derived.Test.YtcenijdaacbgpaaB21
import Derived.Test.YtcenijdaacbgpaaB23
import Derived.Test.YtcenijdaacbgpaaB22
import Derived.Test.YtcenijdaacbgpaaInp
set_option linter.unusedVariables false
set_option linter.unusedSimpArgs false
/- What is told: laws.told. -/
namespace Go.Proofs.Ytcenijdaacbgpaa.L
open Go.RowKit Go.Proofs.Ytcenijdaacbgpaa.S
set_option linter.unusedVariables false
set_option linter.unusedSimpArgs false

def toldL (s : SysC) (xs : List Int) (ls : List (List T)) : List Int := if solB s xs = true then ls.map (lval (solveL s xs)) else []
theorem solB_facts {s : SysC} {xs : List Int} (h : solB s xs = true) : sysOk s = true ∧ (xs.length : Int) = s.ins ∧ (∀ x ∈ xs, fl x) ∧ checkB s (solveL s xs) = true := by
  unfold solB at h
  rw [Bool.and_eq_true, Bool.and_eq_true, Bool.and_eq_true] at h
  exact ⟨h.1, of_decide_eq_true h.2.1, all_fl h.2.2.1, h.2.2.2⟩
theorem valOk_in {xs : List Int} {ts : List T} (h1 : linW xs.length ts = true) (h2 : isAsg xs = true) : valOk ts xs = true := by rw [valOk_asg, h1, h2]; rfl
theorem checkB_f2 {s : SysC} {xs : List Int} (h : checkB s xs = true) : sysOk s = true ∧ (xs.length : Int) = varsN s ∧ isAsg xs = true := by
  unfold checkB at h
  rw [Bool.and_eq_true, Bool.and_eq_true, Bool.and_eq_true] at h
  exact ⟨h.1, of_decide_eq_true h.2.1, h.2.2.1⟩
set_option maxRecDepth 100000 in
set_option maxHeartbeats 6400000 in
theorem told_any (o l h vi vo vh vc) (s : SysC) (lim : Nat) (v : Value) (xs : List Int) (ol : Bool) (ll hl2 : Nat) (vl : Value) (ls : List (List T)) (w : World) (t : SysR o l h w vi vo vh vc s) (hw : h ≤ w.heap.size) (ti : Ints lim w v xs) (hl : lim ≤ w.heap.size) (tl : LinS ol ll hl2 w vl ls) (hhl : hl2 ≤ w.heap.size)
    (ni : xs.length ≤ 1048576) (nh : s.hints.length ≤ 1048576) (no : s.outs.length ≤ 1048576) (nc : s.cons.length ≤ 1048576) (nl : ls.length ≤ 1000) (hls : sysOk s = true → ∀ x ∈ ls, linW (varsN s) x = true) (b : Bool) (hb : solB s xs = b) (T0 : List Int) (hT : toldL s xs ls = T0) :
    Calls Try.prog 12 #[.agg #[vi, vo, vh, vc], v, vl] w fun e w' => ∃ u, e = .returned (.tuple #[u, .bool b]) ∧ Below w.heap.size w w' ∧ Nums true w.heap.size w'.heap.size w' u T0 := by
  obtain ⟨ao, ko, ah, kh, ac, kc, rfl, rfl, rfl, rfl, lo, bo, lh, bh, lc, bc, fi⟩ := t.shape
  obtain ⟨ai, ki, rfl, lai, bai⟩ := ti.shape
  obtain ⟨al, kl, rfl, lal, bal⟩ := tl.shape
  obtain ⟨i0, hi0, hz0, hz1, hz2⟩ := info_parts intInfo
  have HTL := Lib.hid hT
  have HSV : Hid (∀ (w1 : World), Below w.heap.size w w1 → Calls Try.prog 14 #[.agg #[.int .i64 s.ins, .slice ao s.outs.length ko, .slice ah s.hints.length kh, .slice ac s.cons.length kc], .slice ai xs.length ki] w1 fun e w' => ∃ u, e = .returned (.tuple #[u, .bool b]) ∧ Below w1.heap.size w1 w' ∧ Nums true w1.heap.size w'.heap.size w' u (solL s xs)) :=
    Lib.hid fun w1 e1 => by rw [← hb]; exact solve_spec o l h _ _ _ _ s lim _ xs w1 (t.keep e1 hw) (Nat.le_trans hw e1.size) (ti.keep e1 hl) (Nat.le_trans hl e1.size) ni nh no nc
  clear hT
  cases b
  case false =>
    have E1 : Hid (T0 = []) := Lib.hid (by rw [← HTL.out]; unfold toldL; rw [hb]; rfl)
    clear hb
    go_enter Try.func12, Try.ntmps12
    go_wp2_with fail
    refine name_call fun w1 hw1 => ?_
    have b1 : Below w.heap.size w w1 := by rw [hw1]; (repeat (with_reducible first | exact bR _ _ | assumption | refine bD ?_ | refine bN ?_ _ | refine bA ?_ _ | refine bS ?_ _))
    clear hw1
    refine (HSV.out w1 b1).mono ?_; rintro e w2 ⟨u2, rfl, f2, n2⟩
    have b2 := b1.trans (f2.mono b1.size)
    go_wp2_with fail
    go_ret2
    exact ⟨_, rfl, b2, by rw [E1.out]; exact Nums.nil _ _ _ _⟩
  case true =>
    obtain ⟨h1, h2, h3, h4⟩ := solB_facts hb
    have E1 : Hid (T0 = ls.map (lval (solL s xs))) := Lib.hid (by rw [← HTL.out]; unfold toldL solL; rw [hb]; rfl)
    obtain ⟨c1, c2, c3⟩ := checkB_f2 h4
    have E2 : solL s xs = solveL s xs := by unfold solL; rw [hb]; rfl
    rw [← E2] at c2 c3
    have LW := Lib.hid fun x (hx : x ∈ ls) => show linW (solL s xs).length x = true from by rw [c2]; exact hls h1 x hx
    have AS := Lib.hid c3
    clear hb h1 h2 h3 h4 c1 c2 c3 E2
    generalize solL s xs = S at *
    go_enter Try.func12, Try.ntmps12
    go_wp2_with fail
    refine name_call fun w1 hw1 => ?_
    have b1 : Below w.heap.size w w1 := by rw [hw1]; (repeat (with_reducible first | exact bR _ _ | assumption | refine bD ?_ | refine bN ?_ _ | refine bA ?_ _ | refine bS ?_ _))
    clear hw1
    refine (HSV.out w1 b1).mono ?_; rintro e w2 ⟨u2, rfl, f2, n2⟩
    have b2 := b1.trans (f2.mono b1.size)
    have z2 := b2.size
    obtain ⟨ra, rc, rfl, rl, rb⟩ := n2.shape
    go_wp2_with fail
    go_loopw [10, 11] (fun v i wr => ∃ k : Nat, k ≤ ls.length ∧ i = .int .i64 k ∧ Below w2.heap.size w2 wr ∧ wr.ownsRow w2.heap.size 3 1 v ((ls.take k).map (lval S)).length (((ls.take k).map (lval S)).map (Value.int .i64))) (fun _ i _ => ls.length - (intOf i).toNat)
    case atStart => exact ⟨0, Nat.zero_le _, rfl, Below.refl _ _, World.ownsRow_nil _ _ _ _⟩
    case round =>
      obtain ⟨k, hk, rfl, be, hrow⟩ := hrel
      have zb := be.size
      have bw := b2.trans (be.mono z2)
      by_cases hlt : k < ls.length
      · obtain ⟨bl, ol', ul, rfl, l1, l2, c0, tu⟩ := (tl.keep bw hhl).at hlt
        obtain ⟨ua, uc, rfl, ul', ub⟩ := tu.shape
        have VS := value_spec ol ll hl2 _ ls[k] w2.heap.size _ S wr tu (by omega) (n2.keep be (Nat.le_refl _)).ints zb
        have hv := valOk_in (LW.out _ (List.getElem_mem hlt)) AS.out
        rw [val_yes hv, hv] at VS
        have HT : Hid (((ls.take (k + 1)).map (lval S)).map (Value.int .i64) = ((ls.take k).map (lval S)).map (Value.int .i64) ++ [.int .i64 (lval S ls[k])]) := Lib.hid (by rw [take_step (List.getElem?_eq_getElem hlt), List.map_append, List.map_append]; rfl)
        have HTL : Hid (((ls.take (k + 1)).map (lval S)).length = ((ls.take k).map (lval S)).length + 1) := Lib.hid (by rw [take_step (List.getElem?_eq_getElem hlt), List.map_append, List.length_append]; rfl)
        have hFL : ((ls.take k).map (lval S)).length ≤ 1000 := by rw [List.length_map, List.length_take]; omega
        have bl' : bl < wr.heap.size := World.block_lt_of_cell? _ _ c0
        generalize (ls.take k).map (lval S) = F at *
        generalize lval S ls[k] = y at *
        have HV := Lib.hid VS
        have B1 : F.length + 1 ≤ maxLen := by unfold maxLen; omega
        have B2 : (F.length + 1) * 8 ≤ 140737488355328 := by omega
        clear VS hv
        go_wp2_with fail
        refine (HV.out).mono ?_; rintro e w3 ⟨rfl, f3⟩
        have z3 := f3.size
        have hrow3 := row_keep hrow f3
        have be3 := be.trans (f3.mono zb)
        have zb3 : w2.heap.size ≤ w3.heap.size := by omega
        clear hrow
        go_wp2_with (at_builtin; refine wpList_append_own _ rfl _ _ 27 rfl (w2.heap.size) 3 i0 (.int .i64 0) 1 8 Try.underlying27 hi0 hz0 hz1 hz2 rfl (by decide) _ _ _ rfl (hrow3.alloc _) ⟨w3.heap.size, 0, none⟩ 1 1 [.int .i64 y] rfl rfl (cell_one_new' _ _ _) (by simp [Value.oneCell']) B1 B2 (Nat.le_trans zb3 (by simp)) ?_; intro v' w5 hown' hgrow _)
        have eB : Below w2.heap.size (w3.alloc (.cells #[.int .i64 y] 3)) w5 := (Below.refl _ _).grown hgrow (Nat.le_trans zb3 (by simp)) (fun j ej => (hrow3.lt j ej).1)
        have be5 : Below w2.heap.size w2 w5 := (be3.alloc zb3 (.cells #[.int .i64 y] 3)).trans eB
        clear hrow3
        go_roundw
        case rel => exact ⟨k + 1, by omega, by go_num, be5, by rw [HT.out, HTL.out]; exact hown'⟩
        case measure => simp [intOf]; omega
      · obtain rfl : k = ls.length := by omega
        rw [List.take_length] at hrow
        have ht := (Nums.own (ts := ls.map (lval S)) hrow (fun x hx => by obtain ⟨q, _, rfl⟩ := List.mem_map.1 hx; have := lval_bd S q; unfold Fits; omega)).mono (l' := w.heap.size) (h' := wr.heap.size) z2 (Nat.le_refl _)
        have HT := Lib.hid ht
        obtain ⟨g, cg, rfl, lg, bg⟩ := ht.shape
        clear hrow ht
        go_wp2_with fail
        go_ret2
        exact ⟨_, rfl, bw, by rw [E1.out]; exact HT.out⟩
end Go.Proofs.Ytcenijdaacbgpaa.L

/- Gates over a system of inputs alone: what is added, and what solves it. -/
namespace Go.Proofs.Ytcenijdaacbgpaa.L
open Go.RowKit Go.Proofs.Ytcenijdaacbgpaa.S
set_option linter.unusedVariables false
set_option linter.unusedSimpArgs false

/-- A system of n inputs. -/
def sysI (n : Int) : SysC := ⟨n, [], [], []⟩
theorem sysI_R (n : Int) (f : Fits n) (w : World) : SysR false 0 0 w (.int .i64 n) (.slice none 0 0) (.slice none 0 0) (.slice none 0 0) (sysI n) :=
  ⟨rfl, f, 0, 0, 0, 0, 0, 0, Nat.le_refl _, Nat.le_refl _, Nat.le_refl _, Nat.le_refl _, Nat.le_refl _, Nat.le_refl _, (fun q => by cases q), LinS.nil, HintS.nil, ConS.nil⟩
theorem sysI_small (n : Int) : Small (sysI n) := ⟨by simp [sysI], by simp [sysI], by simp [sysI], by simp [sysI], by simp [sysI], by simp [sysI]⟩
def v1 : List T := [(1, 1)]
def v2 : List T := [(2, 1)]
def tBool : SysC := ⟨2, [], [], [⟨[(1, 1)], [(0, 2147483646), (1, 1)], []⟩]⟩
def tEq : SysC := ⟨2, [], [], [⟨[(1, 1), (2, 2147483646)], [(0, 1)], []⟩]⟩
theorem tBool_is : bSys (sysI 2) (boolB (sysI 2) ⟨[], [], 0⟩ v1) = tBool := by kernel_rfl
theorem tEq_is : bSys (sysI 2) (eqB (sysI 2) ⟨[], [], 0⟩ v1 v2) = tEq := by kernel_rfl
theorem tBool_may : mayL (sysI 2) [v1] = true := by kernel_rfl
theorem tEq_may : mayL (sysI 2) [v1, v2] = true := by kernel_rfl
theorem tBool_ok : bOk (boolB (sysI 2) ⟨[], [], 0⟩ v1) = true := by kernel_rfl
theorem tEq_ok : bOk (eqB (sysI 2) ⟨[], [], 0⟩ v1 v2) = true := by kernel_rfl
theorem tBool_sys : sysOk tBool = true := by kernel_rfl
theorem tEq_sys : sysOk tEq = true := by kernel_rfl
theorem sysI2_sys : sysOk (sysI 2) = true := by kernel_rfl
theorem asg3 {x y : Int} (hx : fl x) (hy : fl y) : isAsg [1, x, y] = true := decide_eq_true ⟨by simp, by simp, rfl, by
  intro z hz
  simp only [List.mem_cons, List.not_mem_nil, or_false] at hz
  rcases hz with rfl | rfl | rfl
  · unfold fl; omega
  · exact hx
  · exact hy⟩
theorem flB_of {x : Int} (h : fl x) : flB x = true := decide_eq_true h
theorem solB_bool {x y : Int} (hx : fl x) (hy : fl y) : solB tBool [x, y] = decide (x < 2) := by
  have e : lval [1, x, y] [(1, 1)] * lval [1, x, y] [(0, 2147483646), (1, 1)] % 2147483647 = x * ((x + 2147483646) % 2147483647) % 2147483647 := by
    have hx' := hx
    unfold fl at hx'
    have h1 : lval [1, x, y] [(1, 1)] = x := by simp [lval, term]; omega
    have h2 : lval [1, x, y] [(0, 2147483646), (1, 1)] = (x + 2147483646) % 2147483647 := by simp [lval, term]; omega
    rw [h1, h2]
  have e0 : lval [1, x, y] [] = 0 := rfl
  have hc : checkB tBool (solveL tBool [x, y]) = decide (x < 2) := by
    show checkB tBool [1, x, y] = _
    unfold checkB
    rw [tBool_sys, asg3 hx hy]
    simp only [tBool, allB, List.all_cons, List.all_nil, holdsB, varsN, Bool.and_true, Bool.true_and, e0, e]
    by_cases q : x < 2
    · rw [(bit_iff hx).2 q]; simp [q]
    · have : ¬ x * ((x + 2147483646) % 2147483647) % 2147483647 = 0 := fun h => q ((bit_iff hx).1 h)
      simp [q, this]
  unfold solB
  rw [tBool_sys, hc]
  simp [tBool, flB_of hx, flB_of hy]
theorem solB_eq {x y : Int} (hx : fl x) (hy : fl y) : solB tEq [x, y] = decide (x = y) := by
  have e : lval [1, x, y] [(1, 1), (2, 2147483646)] * lval [1, x, y] [(0, 1)] % 2147483647 = (x + y * 2147483646) % 2147483647 := by
    have h1 : lval [1, x, y] [(1, 1), (2, 2147483646)] = (x + y * 2147483646) % 2147483647 := by simp [lval, term]; omega
    have h2 : lval [1, x, y] [(0, 1)] = 1 := rfl
    rw [h1, h2]; omega
  have e0 : lval [1, x, y] [] = 0 := rfl
  have hc : checkB tEq (solveL tEq [x, y]) = decide (x = y) := by
    show checkB tEq [1, x, y] = _
    unfold checkB
    rw [tEq_sys, asg3 hx hy]
    simp only [tEq, allB, List.all_cons, List.all_nil, holdsB, varsN, Bool.and_true, Bool.true_and, e0, e]
    unfold fl at hx hy
    by_cases q : x = y
    · subst q
      have : (x + x * 2147483646) % 2147483647 = 0 := by omega
      simp [this]
    · have : ¬ (x + y * 2147483646) % 2147483647 = 0 := by omega
      simp [q, this]
  unfold solB
  rw [tEq_sys, hc]
  simp [tEq, flB_of hx, flB_of hy]
end Go.Proofs.Ytcenijdaacbgpaa.L
