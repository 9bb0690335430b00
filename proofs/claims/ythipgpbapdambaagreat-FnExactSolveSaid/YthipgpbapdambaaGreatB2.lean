/- B2: Sz EqS Copy CopyT CopyS ToSys Marks -/
import Derived.Test.YthipgpbapdambaaGreatB1
set_option linter.unusedVariables false
set_option linter.unusedSimpArgs false
/- The sizes of slices of combinations, hints, constraints, and of systems. -/
namespace Go.Proofs.YthipgpbapdambaaGreat.L
open Go.RowKit Go.Proofs.YthipgpbapdambaaGreat.S
set_option linter.unusedVariables false
set_option linter.unusedSimpArgs false

/-- What is left of n behind a size, or -1. -/
def left (n : Int) (s : Nat) : Int := if n < s then -1 else n - s
theorem left_no {n : Int} {s : Nat} (h : n < s) : left n s = -1 := if_pos h
theorem left_ok {n : Int} {s : Nat} (h : ¬ n < s) : left n s = n - s := if_neg h
/-- The sum of a measure over a list. -/
def tot {α : Type} (f : α → Nat) (xs : List α) : Nat := (xs.map f).sum
theorem tot_step {α : Type} {f : α → Nat} {xs : List α} {k : Nat} (h : k < xs.length) : tot f (xs.take (k + 1)) = tot f (xs.take k) + f xs[k] := by
 unfold tot; rw [take_step (List.getElem?_eq_getElem h), List.map_append, List.sum_append_nat]; simp
theorem tot_le {α : Type} (f : α → Nat) (xs : List α) (k : Nat) : tot f (xs.take k) ≤ tot f xs := by
 have h : tot f xs = tot f (xs.take k) + tot f (xs.drop k) := by
  unfold tot
  rw [← List.sum_append_nat, ← List.map_append, List.take_append_drop]
 omega
theorem tot_nil {α : Type} (f : α → Nat) : tot f [] = 0 := rfl
def szLs (ls : List (List T)) : Nat := ls.length + tot List.length ls
def szH (h : HintC) : Nat := h.a.length + h.b.length
def szHs (hs : List HintC) : Nat := hs.length + tot szH hs
def szC (c : ConC) : Nat := c.a.length + c.b.length + c.c.length
def szCs (cs : List ConC) : Nat := cs.length + tot szC cs
def szS (s : SysC) : Nat := szLs s.outs + szHs s.hints + szCs s.cons

theorem szLin_left (o l h v ts) (n : Int) (w : World) (t : Terms o l h w v ts) (hw : h ≤ w.heap.size) (n0 : 0 ≤ n) (n1 : n ≤ 1048576) :
  Calls Tryz.prog 79 #[.agg #[v], .int .i64 n] w fun e w' => e = .returned (.int .i64 (left n ts.length)) ∧ Below w.heap.size w w' := szLin_any o l h v ts n w t hw n0 n1
theorem szLin_ok (o l h v ts) (n : Int) (w : World) (t : Terms o l h w v ts) (hw : h ≤ w.heap.size) (n1 : n ≤ 1048576) (hn : (ts.length : Int) ≤ n) :
  Calls Tryz.prog 79 #[.agg #[v], .int .i64 n] w fun e w' => e = .returned (.int .i64 (n - ts.length)) ∧ Below w.heap.size w w' := by
 have := szLin_left o l h v ts n w t hw (by omega) n1
 rwa [left_ok (by omega)] at this
theorem szLin_no (o l h v ts) (n : Int) (w : World) (t : Terms o l h w v ts) (hw : h ≤ w.heap.size) (n0 : 0 ≤ n) (n1 : n ≤ 1048576) (hn : n < (ts.length : Int)) :
  Calls Tryz.prog 79 #[.agg #[v], .int .i64 n] w fun e w' => e = .returned (.int .i64 (-1)) ∧ Below w.heap.size w w' := by
 have := szLin_left o l h v ts n w t hw n0 n1
 rwa [left_no hn] at this

set_option maxRecDepth 100000 in
set_option maxHeartbeats 1600000 in
theorem szLinS_left (o l h v) (ls : List (List T)) (n : Int) (w : World) (t : LinS o l h w v ls) (hw : h ≤ w.heap.size) (n0 : 0 ≤ n) (n1 : n ≤ 1048576) :
  Calls Tryz.prog 34 #[v, .int .i64 n] w fun e w' => e = .returned (.int .i64 (left n (szLs ls))) ∧ Below w.heap.size w w' := by
 obtain ⟨a, ka, rfl, la, ba⟩ := t.shape
 by_cases hl : n < ls.length
 ·rw [left_no (by unfold szLs; omega)]
  go_enter Tryz.func34, Tryz.ntmps34
  go_wp2_with fail
  go_ret
  exact ⟨rfl, by (repeat (with_reducible first | exact bR _ _ | assumption | refine bD ?_ | refine bN ?_ _ | refine bA ?_ _ | refine bS ?_ _))⟩
 ·go_enter Tryz.func34, Tryz.ntmps34
  go_wp2_with fail
  go_loopw [1, 5] (fun q i wr => ∃ (k : Nat) (m : Int), k ≤ ls.length ∧ q = .int .i64 m ∧ i = .int .i64 k ∧ 0 ≤ m ∧ m ≤ 1048576 ∧ m + ls.length + tot List.length (ls.take k) = n ∧ Below w.heap.size w wr) (fun q i _ => ls.length - (intOf i).toNat)
  case atStart => exact ⟨0, n - ls.length, Nat.zero_le _, rfl, rfl, by omega, by omega, by simp [tot_nil], Below.refl _ _⟩
  case round =>
   obtain ⟨k, m, hk, rfl, rfl, m0, m1, hs, be⟩ := hrel
   have HS := Lib.hid hs
   clear hs
   have zb := be.size
   by_cases hlt : k < ls.length
   ·have st := tot_step (f := List.length) hlt
    have le := tot_le List.length ls (k + 1)
    obtain ⟨b, off, u, rfl, l1, m1', c1, tu⟩ := (t.keep be hw).at hlt
    obtain ⟨x, kx, rfl, lx, bx⟩ := tu.shape
    by_cases hm : m < ls[k].length
    ·have E : Hid (left n (szLs ls) = -1) := Lib.hid (left_no (by have := HS.out; unfold szLs; omega))
     clear st le
     go_wp2_with fail
     refine (szLin_no o l h _ ls[k] m _ tu (by omega) m0 m1 hm).mono ?_; rintro e w2 ⟨rfl, f⟩
     go_wp2_with fail
     go_ret
     exact ⟨by rw [E.out]; rfl, be.trans (f.mono be.size)⟩
    ·have E : Hid ((m - ls[k].length) + ls.length + tot List.length (ls.take (k + 1)) = n) := Lib.hid (by have := HS.out; omega)
     have hm' : 0 ≤ m - ls[k].length := by omega
     have hm2 : m - ls[k].length ≤ 1048576 := by omega
     have hm3 : (ls[k].length : Int) ≤ m := by omega
     clear st le hm
     go_wp2_with fail
     refine (szLin_ok o l h _ ls[k] m _ tu (by omega) m1 hm3).mono ?_; rintro e w2 ⟨rfl, f⟩
     go_wp2_with fail
     go_roundw
     case rel => exact ⟨k + 1, m - ls[k].length, by omega, rfl, by go_num, hm', hm2, E.out, be.trans (f.mono be.size)⟩
     case measure => simp [intOf]; omega
   ·have hke : k = ls.length := by omega
    have E : Hid (left n (szLs ls) = m) := Lib.hid (by have := HS.out; rw [take_end hlt] at this; rw [left_ok (by unfold szLs; omega)]; unfold szLs; omega)
    clear hke
    go_wp2_with fail
    go_ret
    exact ⟨by rw [E.out]; rfl, be⟩

set_option maxRecDepth 100000 in
set_option maxHeartbeats 1600000 in
theorem szHint_left (o l h va vb) (x : HintC) (n : Int) (w : World) (ta : Terms o l h w va x.a) (tb : Terms o l h w vb x.b) (hw : h ≤ w.heap.size) (n0 : 0 ≤ n) (n1 : n ≤ 1048576) :
  Calls Tryz.prog 80 #[.agg #[.int .i64 x.kind, va, vb, .int .i64 x.k], .int .i64 n] w fun e w' => e = .returned (.int .i64 (left n (szH x))) ∧ Below w.heap.size w w' := by
 obtain ⟨aa, ka, rfl, la, ba⟩ := ta.shape
 obtain ⟨ab, kb, rfl, lb, bb⟩ := tb.shape
 by_cases hA : n < x.a.length
 ·rw [left_no (by unfold szH; omega)]
  go_enter Tryz.func80, Tryz.ntmps80
  go_wp2_with fail
  refine name_call fun w1 hw1 => ?_
  have b1 : Below w.heap.size w w1 := by rw [hw1]; (repeat (with_reducible first | exact bR _ _ | assumption | refine bD ?_ | refine bN ?_ _ | refine bA ?_ _ | refine bS ?_ _))
  have z1 := b1.size
  clear hw1
  refine (szLin_no o l h _ x.a n _ (ta.keep b1 hw) (by omega) n0 n1 hA).mono ?_; rintro e w2 ⟨rfl, f2⟩
  have b2 := b1.trans (f2.mono (by omega))
  go_wp2_with fail
  go_ret
  exact ⟨rfl, b2⟩
 ·by_cases hB : n - x.a.length < x.b.length
  ·rw [left_no (by unfold szH; omega)]
   go_enter Tryz.func80, Tryz.ntmps80
   go_wp2_with fail
   refine name_call fun w1 hw1 => ?_
   have b1 : Below w.heap.size w w1 := by rw [hw1]; (repeat (with_reducible first | exact bR _ _ | assumption | refine bD ?_ | refine bN ?_ _ | refine bA ?_ _ | refine bS ?_ _))
   have cB : w1.cell? ⟨w.heap.size, 2, none⟩ = some (.slice ab x.b.length kb) := by rw [hw1]; simp
   have z1 : w.heap.size < w1.heap.size := by rw [hw1]; simp
   clear hw1
   refine (szLin_ok o l h _ x.a n _ (ta.keep b1 hw) (by omega) n1 (by omega)).mono ?_; rintro e w2 ⟨rfl, f2⟩
   have b2 := b1.trans (f2.mono (by omega))
   have z2 := f2.size
   have cB2 := cell_keep f2 cB
   clear cB
   go_wp2_with fail
   refine (szLin_no o l h _ x.b _ _ (tb.keep b2 hw) (by omega) (by omega) (by omega) hB).mono ?_; rintro e w3 ⟨rfl, f3⟩
   have b3 := b2.trans (f3.mono (by omega))
   go_wp2_with fail
   go_ret
   exact ⟨rfl, b3⟩
  ·have E : left n (szH x) = n - x.a.length - x.b.length := by rw [left_ok (by unfold szH; omega)]; unfold szH; omega
   rw [E]
   clear E
   have q0 : 0 ≤ n - x.a.length := by omega
   have q1 : n - x.a.length ≤ 1048576 := by omega
   have q2 : 0 ≤ n - x.a.length - x.b.length := by omega
   have q3 : n - x.a.length - x.b.length ≤ 1048576 := by omega
   go_enter Tryz.func80, Tryz.ntmps80
   go_wp2_with fail
   refine name_call fun w1 hw1 => ?_
   have b1 : Below w.heap.size w w1 := by rw [hw1]; (repeat (with_reducible first | exact bR _ _ | assumption | refine bD ?_ | refine bN ?_ _ | refine bA ?_ _ | refine bS ?_ _))
   have cB : w1.cell? ⟨w.heap.size, 2, none⟩ = some (.slice ab x.b.length kb) := by rw [hw1]; simp
   have z1 : w.heap.size < w1.heap.size := by rw [hw1]; simp
   clear hw1
   refine (szLin_ok o l h _ x.a n _ (ta.keep b1 hw) (by omega) n1 (by omega)).mono ?_; rintro e w2 ⟨rfl, f2⟩
   have b2 := b1.trans (f2.mono (by omega))
   have z2 := f2.size
   have cB2 := cell_keep f2 cB
   clear cB
   go_wp2_with fail
   refine (szLin_ok o l h _ x.b _ _ (tb.keep b2 hw) (by omega) (by omega) (by omega)).mono ?_; rintro e w3 ⟨rfl, f3⟩
   have b3 := b2.trans (f3.mono (by omega))
   go_wp2_with fail
   go_ret
   exact ⟨rfl, b3⟩
theorem szHint_ok (o l h va vb) (x : HintC) (n : Int) (w : World) (ta : Terms o l h w va x.a) (tb : Terms o l h w vb x.b) (hw : h ≤ w.heap.size) (n1 : n ≤ 1048576) (hn : (szH x : Int) ≤ n) :
  Calls Tryz.prog 80 #[.agg #[.int .i64 x.kind, va, vb, .int .i64 x.k], .int .i64 n] w fun e w' => e = .returned (.int .i64 (n - (szH x : Nat))) ∧ Below w.heap.size w w' := by
 have := szHint_left o l h va vb x n w ta tb hw (by omega) n1
 rwa [left_ok (by omega)] at this
theorem szHint_no (o l h va vb) (x : HintC) (n : Int) (w : World) (ta : Terms o l h w va x.a) (tb : Terms o l h w vb x.b) (hw : h ≤ w.heap.size) (n0 : 0 ≤ n) (n1 : n ≤ 1048576) (hn : n < (szH x : Nat)) :
  Calls Tryz.prog 80 #[.agg #[.int .i64 x.kind, va, vb, .int .i64 x.k], .int .i64 n] w fun e w' => e = .returned (.int .i64 (-1)) ∧ Below w.heap.size w w' := by
 have := szHint_left o l h va vb x n w ta tb hw n0 n1
 rwa [left_no hn] at this

set_option maxRecDepth 100000 in
set_option maxHeartbeats 1600000 in
theorem szCon_left (o l h va vb vc) (x : ConC) (n : Int) (w : World) (ta : Terms o l h w va x.a) (tb : Terms o l h w vb x.b) (tc : Terms o l h w vc x.c) (hw : h ≤ w.heap.size) (n0 : 0 ≤ n) (n1 : n ≤ 1048576) :
  Calls Tryz.prog 81 #[.agg #[va, vb, vc], .int .i64 n] w fun e w' => e = .returned (.int .i64 (left n (szC x))) ∧ Below w.heap.size w w' := by
 obtain ⟨aa, ka, rfl, la, ba⟩ := ta.shape
 obtain ⟨ab, kb, rfl, lb, bb⟩ := tb.shape
 obtain ⟨ac, kc, rfl, lc, bc⟩ := tc.shape
 by_cases hA : n < x.a.length
 ·rw [left_no (by unfold szC; omega)]
  go_enter Tryz.func81, Tryz.ntmps81
  go_wp2_with fail
  refine name_call fun w1 hw1 => ?_
  have b1 : Below w.heap.size w w1 := by rw [hw1]; (repeat (with_reducible first | exact bR _ _ | assumption | refine bD ?_ | refine bN ?_ _ | refine bA ?_ _ | refine bS ?_ _))
  have cB : w1.cell? ⟨w.heap.size, 1, none⟩ = some (.slice ab x.b.length kb) := by rw [hw1]; simp
  have cC : w1.cell? ⟨w.heap.size, 2, none⟩ = some (.slice ac x.c.length kc) := by rw [hw1]; simp
  have z1 : w.heap.size < w1.heap.size := by rw [hw1]; simp
  clear hw1
  refine (szLin_no o l h _ x.a n _ (ta.keep b1 hw) (by omega) (by omega) (by omega) (by omega)).mono ?_; rintro e w2 ⟨rfl, f2⟩
  have b2 := b1.trans (f2.mono (by omega))
  go_wp2_with fail
  go_ret
  exact ⟨rfl, b2⟩
 ·by_cases hB : n - x.a.length < x.b.length
  ·rw [left_no (by unfold szC; omega)]
   go_enter Tryz.func81, Tryz.ntmps81
   go_wp2_with fail
   refine name_call fun w1 hw1 => ?_
   have b1 : Below w.heap.size w w1 := by rw [hw1]; (repeat (with_reducible first | exact bR _ _ | assumption | refine bD ?_ | refine bN ?_ _ | refine bA ?_ _ | refine bS ?_ _))
   have cB : w1.cell? ⟨w.heap.size, 1, none⟩ = some (.slice ab x.b.length kb) := by rw [hw1]; simp
   have cC : w1.cell? ⟨w.heap.size, 2, none⟩ = some (.slice ac x.c.length kc) := by rw [hw1]; simp
   have z1 : w.heap.size < w1.heap.size := by rw [hw1]; simp
   clear hw1
   refine (szLin_ok o l h _ x.a n _ (ta.keep b1 hw) (by omega) (by omega) (by omega)).mono ?_; rintro e w2 ⟨rfl, f2⟩
   have b2 := b1.trans (f2.mono (by omega))
   have z2 := f2.size
   replace cB := cell_keep f2 cB
   replace cC := cell_keep f2 cC
   go_wp2_with fail
   refine (szLin_no o l h _ x.b _ _ (tb.keep b2 hw) (by omega) (by omega) (by omega) (by omega)).mono ?_; rintro e w3 ⟨rfl, f3⟩
   have b3 := b2.trans (f3.mono (by omega))
   go_wp2_with fail
   go_ret
   exact ⟨rfl, b3⟩
  ·by_cases hC : n - x.a.length - x.b.length < x.c.length
   ·rw [left_no (by unfold szC; omega)]
    have q0 : 0 ≤ n - x.a.length := by omega
    have q1 : n - x.a.length ≤ 1048576 := by omega
    have q2 : 0 ≤ n - x.a.length - x.b.length := by omega
    have q3 : n - x.a.length - x.b.length ≤ 1048576 := by omega
    go_enter Tryz.func81, Tryz.ntmps81
    go_wp2_with fail
    refine name_call fun w1 hw1 => ?_
    have b1 : Below w.heap.size w w1 := by rw [hw1]; (repeat (with_reducible first | exact bR _ _ | assumption | refine bD ?_ | refine bN ?_ _ | refine bA ?_ _ | refine bS ?_ _))
    have cB : w1.cell? ⟨w.heap.size, 1, none⟩ = some (.slice ab x.b.length kb) := by rw [hw1]; simp
    have cC : w1.cell? ⟨w.heap.size, 2, none⟩ = some (.slice ac x.c.length kc) := by rw [hw1]; simp
    have z1 : w.heap.size < w1.heap.size := by rw [hw1]; simp
    clear hw1
    refine (szLin_ok o l h _ x.a n _ (ta.keep b1 hw) (by omega) (by omega) (by omega)).mono ?_; rintro e w2 ⟨rfl, f2⟩
    have b2 := b1.trans (f2.mono (by omega))
    have z2 := f2.size
    replace cB := cell_keep f2 cB
    replace cC := cell_keep f2 cC
    go_wp2_with fail
    refine (szLin_ok o l h _ x.b _ _ (tb.keep b2 hw) (by omega) (by omega) (by omega)).mono ?_; rintro e w3 ⟨rfl, f3⟩
    have b3 := b2.trans (f3.mono (by omega))
    have z3 := f3.size
    clear cB
    replace cC := cell_keep f3 cC
    go_wp2_with fail
    refine (szLin_no o l h _ x.c _ _ (tc.keep b3 hw) (by omega) (by omega) (by omega) (by omega)).mono ?_; rintro e w4 ⟨rfl, f4⟩
    have b4 := b3.trans (f4.mono (by omega))
    go_wp2_with fail
    go_ret
    exact ⟨rfl, b4⟩
   ·have E : left n (szC x) = n - x.a.length - x.b.length - x.c.length := by rw [left_ok (by unfold szC; omega)]; unfold szC; omega
    rw [E]
    clear E
    have q0 : 0 ≤ n - x.a.length := by omega
    have q1 : n - x.a.length ≤ 1048576 := by omega
    have q2 : 0 ≤ n - x.a.length - x.b.length := by omega
    have q3 : n - x.a.length - x.b.length ≤ 1048576 := by omega
    have q4 : 0 ≤ n - x.a.length - x.b.length - x.c.length := by omega
    have q5 : n - x.a.length - x.b.length - x.c.length ≤ 1048576 := by omega
    go_enter Tryz.func81, Tryz.ntmps81
    go_wp2_with fail
    refine name_call fun w1 hw1 => ?_
    have b1 : Below w.heap.size w w1 := by rw [hw1]; (repeat (with_reducible first | exact bR _ _ | assumption | refine bD ?_ | refine bN ?_ _ | refine bA ?_ _ | refine bS ?_ _))
    have cB : w1.cell? ⟨w.heap.size, 1, none⟩ = some (.slice ab x.b.length kb) := by rw [hw1]; simp
    have cC : w1.cell? ⟨w.heap.size, 2, none⟩ = some (.slice ac x.c.length kc) := by rw [hw1]; simp
    have z1 : w.heap.size < w1.heap.size := by rw [hw1]; simp
    clear hw1
    refine (szLin_ok o l h _ x.a n _ (ta.keep b1 hw) (by omega) (by omega) (by omega)).mono ?_; rintro e w2 ⟨rfl, f2⟩
    have b2 := b1.trans (f2.mono (by omega))
    have z2 := f2.size
    replace cB := cell_keep f2 cB
    replace cC := cell_keep f2 cC
    go_wp2_with fail
    refine (szLin_ok o l h _ x.b _ _ (tb.keep b2 hw) (by omega) (by omega) (by omega)).mono ?_; rintro e w3 ⟨rfl, f3⟩
    have b3 := b2.trans (f3.mono (by omega))
    have z3 := f3.size
    clear cB
    replace cC := cell_keep f3 cC
    go_wp2_with fail
    refine (szLin_ok o l h _ x.c _ _ (tc.keep b3 hw) (by omega) (by omega) (by omega)).mono ?_; rintro e w4 ⟨rfl, f4⟩
    have b4 := b3.trans (f4.mono (by omega))
    go_wp2_with fail
    go_ret
    exact ⟨rfl, b4⟩
theorem szCon_ok (o l h va vb vc) (x : ConC) (n : Int) (w : World) (ta : Terms o l h w va x.a) (tb : Terms o l h w vb x.b) (tc : Terms o l h w vc x.c) (hw : h ≤ w.heap.size) (n1 : n ≤ 1048576) (hn : (szC x : Int) ≤ n) :
  Calls Tryz.prog 81 #[.agg #[va, vb, vc], .int .i64 n] w fun e w' => e = .returned (.int .i64 (n - (szC x : Nat))) ∧ Below w.heap.size w w' := by
 have := szCon_left o l h va vb vc x n w ta tb tc hw (by omega) n1
 rwa [left_ok (by omega)] at this
theorem szCon_no (o l h va vb vc) (x : ConC) (n : Int) (w : World) (ta : Terms o l h w va x.a) (tb : Terms o l h w vb x.b) (tc : Terms o l h w vc x.c) (hw : h ≤ w.heap.size) (n0 : 0 ≤ n) (n1 : n ≤ 1048576) (hn : n < (szC x : Nat)) :
  Calls Tryz.prog 81 #[.agg #[va, vb, vc], .int .i64 n] w fun e w' => e = .returned (.int .i64 (-1)) ∧ Below w.heap.size w w' := by
 have := szCon_left o l h va vb vc x n w ta tb tc hw n0 n1
 rwa [left_no hn] at this

set_option maxRecDepth 100000 in
set_option maxHeartbeats 1600000 in
theorem szHintS_left (o l h v) (ls : List HintC) (n : Int) (w : World) (t : HintS o l h w v ls) (hw : h ≤ w.heap.size) (n0 : 0 ≤ n) (n1 : n ≤ 1048576) :
  Calls Tryz.prog 35 #[v, .int .i64 n] w fun e w' => e = .returned (.int .i64 (left n (szHs ls))) ∧ Below w.heap.size w w' := by
 obtain ⟨a, ka, rfl, la, ba⟩ := t.shape
 by_cases hl : n < ls.length
 ·rw [left_no (by unfold szHs; omega)]
  go_enter Tryz.func35, Tryz.ntmps35
  go_wp2_with fail
  go_ret
  exact ⟨rfl, by (repeat (with_reducible first | exact bR _ _ | assumption | refine bD ?_ | refine bN ?_ _ | refine bA ?_ _ | refine bS ?_ _))⟩
 ·go_enter Tryz.func35, Tryz.ntmps35
  go_wp2_with fail
  go_loopw [1, 5] (fun q i wr => ∃ (k : Nat) (m : Int), k ≤ ls.length ∧ q = .int .i64 m ∧ i = .int .i64 k ∧ 0 ≤ m ∧ m ≤ 1048576 ∧ m + ls.length + tot szH (ls.take k) = n ∧ Below w.heap.size w wr) (fun q i _ => ls.length - (intOf i).toNat)
  case atStart => exact ⟨0, n - ls.length, Nat.zero_le _, rfl, rfl, by omega, by omega, by simp [tot_nil], Below.refl _ _⟩
  case round =>
   obtain ⟨k, m, hk, rfl, rfl, m0, m1, hs, be⟩ := hrel
   have HS := Lib.hid hs
   clear hs
   have zb := be.size
   by_cases hlt : k < ls.length
   ·have st := tot_step (f := szH) hlt
    have le := tot_le szH ls (k + 1)
    obtain ⟨b, off, va, vb, rfl, l1, m1', c0, c1, c2, c3, _, _, ta, tb⟩ := (t.keep be hw).at hlt
    obtain ⟨x, kx, rfl, lx, bx⟩ := ta.shape
    obtain ⟨y, ky, rfl, ly, by'⟩ := tb.shape
    by_cases hm : m < (szH ls[k] : Nat)
    ·have E : Hid (left n (szHs ls) = -1) := Lib.hid (left_no (by have := HS.out; unfold szHs; omega))
     clear st le
     go_wp2_with fail
     refine (szHint_no o l h _ _ ls[k] m _ ta tb (by omega) m0 m1 hm).mono ?_; rintro e w2 ⟨rfl, f⟩
     go_wp2_with fail
     go_ret
     exact ⟨by rw [E.out]; rfl, be.trans (f.mono be.size)⟩
    ·have E : Hid ((m - (szH ls[k] : Nat)) + ls.length + tot szH (ls.take (k + 1)) = n) := Lib.hid (by have := HS.out; omega)
     have hm' : 0 ≤ m - (szH ls[k] : Nat) := by omega
     have hm2 : m - (szH ls[k] : Nat) ≤ 1048576 := by omega
     have hm3 : ((szH ls[k] : Nat) : Int) ≤ m := by omega
     clear st le hm
     go_wp2_with fail
     refine (szHint_ok o l h _ _ ls[k] m _ ta tb (by omega) m1 hm3).mono ?_; rintro e w2 ⟨rfl, f⟩
     go_wp2_with fail
     go_roundw
     case rel => exact ⟨k + 1, m - (szH ls[k] : Nat), by omega, rfl, by go_num, hm', hm2, E.out, be.trans (f.mono be.size)⟩
     case measure => simp [intOf]; omega
   ·have hke : k = ls.length := by omega
    have E : Hid (left n (szHs ls) = m) := Lib.hid (by have := HS.out; rw [take_end hlt] at this; rw [left_ok (by unfold szHs; omega)]; unfold szHs; omega)
    clear hke
    go_wp2_with fail
    go_ret
    exact ⟨by rw [E.out]; rfl, be⟩

set_option maxRecDepth 100000 in
set_option maxHeartbeats 1600000 in
theorem szConS_left (o l h v) (ls : List ConC) (n : Int) (w : World) (t : ConS o l h w v ls) (hw : h ≤ w.heap.size) (n0 : 0 ≤ n) (n1 : n ≤ 1048576) :
  Calls Tryz.prog 36 #[v, .int .i64 n] w fun e w' => e = .returned (.int .i64 (left n (szCs ls))) ∧ Below w.heap.size w w' := by
 obtain ⟨a, ka, rfl, la, ba⟩ := t.shape
 by_cases hl : n < ls.length
 ·rw [left_no (by unfold szCs; omega)]
  go_enter Tryz.func36, Tryz.ntmps36
  go_wp2_with fail
  go_ret
  exact ⟨rfl, by (repeat (with_reducible first | exact bR _ _ | assumption | refine bD ?_ | refine bN ?_ _ | refine bA ?_ _ | refine bS ?_ _))⟩
 ·go_enter Tryz.func36, Tryz.ntmps36
  go_wp2_with fail
  go_loopw [1, 5] (fun q i wr => ∃ (k : Nat) (m : Int), k ≤ ls.length ∧ q = .int .i64 m ∧ i = .int .i64 k ∧ 0 ≤ m ∧ m ≤ 1048576 ∧ m + ls.length + tot szC (ls.take k) = n ∧ Below w.heap.size w wr) (fun q i _ => ls.length - (intOf i).toNat)
  case atStart => exact ⟨0, n - ls.length, Nat.zero_le _, rfl, rfl, by omega, by omega, by simp [tot_nil], Below.refl _ _⟩
  case round =>
   obtain ⟨k, m, hk, rfl, rfl, m0, m1, hs, be⟩ := hrel
   have HS := Lib.hid hs
   clear hs
   have zb := be.size
   by_cases hlt : k < ls.length
   ·have st := tot_step (f := szC) hlt
    have le := tot_le szC ls (k + 1)
    obtain ⟨b, off, va, vb, vc, rfl, l1, m1', c0, c1, c2, ta, tb, tc⟩ := (t.keep be hw).at hlt
    obtain ⟨x, kx, rfl, lx, bx⟩ := ta.shape
    obtain ⟨y, ky, rfl, ly, by'⟩ := tb.shape
    obtain ⟨z, kz, rfl, lz, bz⟩ := tc.shape
    by_cases hm : m < (szC ls[k] : Nat)
    ·have E : Hid (left n (szCs ls) = -1) := Lib.hid (left_no (by have := HS.out; unfold szCs; omega))
     clear st le
     go_wp2_with fail
     refine (szCon_no o l h _ _ _ ls[k] m _ ta tb tc (by omega) m0 m1 hm).mono ?_; rintro e w2 ⟨rfl, f⟩
     go_wp2_with fail
     go_ret
     exact ⟨by rw [E.out]; rfl, be.trans (f.mono be.size)⟩
    ·have E : Hid ((m - (szC ls[k] : Nat)) + ls.length + tot szC (ls.take (k + 1)) = n) := Lib.hid (by have := HS.out; omega)
     have hm' : 0 ≤ m - (szC ls[k] : Nat) := by omega
     have hm2 : m - (szC ls[k] : Nat) ≤ 1048576 := by omega
     have hm3 : ((szC ls[k] : Nat) : Int) ≤ m := by omega
     clear st le hm
     go_wp2_with fail
     refine (szCon_ok o l h _ _ _ ls[k] m _ ta tb tc (by omega) m1 hm3).mono ?_; rintro e w2 ⟨rfl, f⟩
     go_wp2_with fail
     go_roundw
     case rel => exact ⟨k + 1, m - (szC ls[k] : Nat), by omega, rfl, by go_num, hm', hm2, E.out, be.trans (f.mono be.size)⟩
     case measure => simp [intOf]; omega
   ·have hke : k = ls.length := by omega
    have E : Hid (left n (szCs ls) = m) := Lib.hid (by have := HS.out; rw [take_end hlt] at this; rw [left_ok (by unfold szCs; omega)]; unfold szCs; omega)
    clear hke
    go_wp2_with fail
    go_ret
    exact ⟨by rw [E.out]; rfl, be⟩

theorem szLinS_ok (o l h v) (ls : List (List T)) (n : Int) (w : World) (t : LinS o l h w v ls) (hw : h ≤ w.heap.size) (n1 : n ≤ 1048576) (hn : (szLs ls : Int) ≤ n) :
  Calls Tryz.prog 34 #[v, .int .i64 n] w fun e w' => e = .returned (.int .i64 (n - (szLs ls : Nat))) ∧ Below w.heap.size w w' := by
 have := szLinS_left o l h v ls n w t hw (by omega) n1
 rwa [left_ok (by omega)] at this
theorem szLinS_no (o l h v) (ls : List (List T)) (n : Int) (w : World) (t : LinS o l h w v ls) (hw : h ≤ w.heap.size) (n0 : 0 ≤ n) (n1 : n ≤ 1048576) (hn : n < (szLs ls : Nat)) :
  Calls Tryz.prog 34 #[v, .int .i64 n] w fun e w' => e = .returned (.int .i64 (-1)) ∧ Below w.heap.size w w' := by
 have := szLinS_left o l h v ls n w t hw n0 n1
 rwa [left_no hn] at this
theorem szHintS_ok (o l h v) (ls : List (HintC)) (n : Int) (w : World) (t : HintS o l h w v ls) (hw : h ≤ w.heap.size) (n1 : n ≤ 1048576) (hn : (szHs ls : Int) ≤ n) :
  Calls Tryz.prog 35 #[v, .int .i64 n] w fun e w' => e = .returned (.int .i64 (n - (szHs ls : Nat))) ∧ Below w.heap.size w w' := by
 have := szHintS_left o l h v ls n w t hw (by omega) n1
 rwa [left_ok (by omega)] at this
theorem szHintS_no (o l h v) (ls : List (HintC)) (n : Int) (w : World) (t : HintS o l h w v ls) (hw : h ≤ w.heap.size) (n0 : 0 ≤ n) (n1 : n ≤ 1048576) (hn : n < (szHs ls : Nat)) :
  Calls Tryz.prog 35 #[v, .int .i64 n] w fun e w' => e = .returned (.int .i64 (-1)) ∧ Below w.heap.size w w' := by
 have := szHintS_left o l h v ls n w t hw n0 n1
 rwa [left_no hn] at this
theorem szConS_ok (o l h v) (ls : List (ConC)) (n : Int) (w : World) (t : ConS o l h w v ls) (hw : h ≤ w.heap.size) (n1 : n ≤ 1048576) (hn : (szCs ls : Int) ≤ n) :
  Calls Tryz.prog 36 #[v, .int .i64 n] w fun e w' => e = .returned (.int .i64 (n - (szCs ls : Nat))) ∧ Below w.heap.size w w' := by
 have := szConS_left o l h v ls n w t hw (by omega) n1
 rwa [left_ok (by omega)] at this
theorem szConS_no (o l h v) (ls : List (ConC)) (n : Int) (w : World) (t : ConS o l h w v ls) (hw : h ≤ w.heap.size) (n0 : 0 ≤ n) (n1 : n ≤ 1048576) (hn : n < (szCs ls : Nat)) :
  Calls Tryz.prog 36 #[v, .int .i64 n] w fun e w' => e = .returned (.int .i64 (-1)) ∧ Below w.heap.size w w' := by
 have := szConS_left o l h v ls n w t hw n0 n1
 rwa [left_no hn] at this

set_option maxRecDepth 100000 in
set_option maxHeartbeats 1600000 in
theorem szSys_ok (o l h vi vo vh vc) (s : SysC) (n : Int) (w : World) (t : SysR o l h w vi vo vh vc s) (hw : h ≤ w.heap.size) (n0 : 0 ≤ n) (n1 : n ≤ 1048576) (hn : (szS s : Int) ≤ n) :
  Calls Tryz.prog 7 #[.agg #[vi, vo, vh, vc], .int .i64 n] w fun e w' => e = .returned (.int .i64 (n - szLs s.outs - szHs s.hints - szCs s.cons)) ∧ Below w.heap.size w w' := by
 obtain ⟨tO, tH, tC⟩ := t.parts
 obtain ⟨ao, ko, ah, kh, ac, kc, rfl, rfl, rfl, rfl, lo, bo, lh, bh, lc, bc, fi⟩ := t.shape
 clear t
 have q0 : 0 ≤ n - szLs s.outs := by first | omega | (unfold szS at hn; omega)
 have q1 : n - szLs s.outs ≤ 1048576 := by omega
 have q2 : 0 ≤ n - szLs s.outs - szHs s.hints := by first | omega | (unfold szS at hn; omega)
 have q3 : n - szLs s.outs - szHs s.hints ≤ 1048576 := by omega
 have q4 : 0 ≤ n - szLs s.outs - szHs s.hints - szCs s.cons := by first | omega | (unfold szS at hn; omega)
 have q5 : n - szLs s.outs - szHs s.hints - szCs s.cons ≤ 1048576 := by omega
 go_enter Tryz.func7, Tryz.ntmps7
 go_wp2_with fail
 refine name_call fun w1 hw1 => ?_
 have b1 : Below w.heap.size w w1 := by rw [hw1]; (repeat (with_reducible first | exact bR _ _ | assumption | refine bD ?_ | refine bN ?_ _ | refine bA ?_ _ | refine bS ?_ _))
 have z1 : w.heap.size + 1 ≤ w1.heap.size := by rw [hw1]; simp
 have e1 : Below w.heap.size w w1 := by rw [hw1]; (repeat (with_reducible first | exact bR _ _ | assumption | refine bD ?_ | refine bN ?_ _ | refine bA ?_ _ | refine bS ?_ _))
 have cX1 : w1.cell? ⟨w.heap.size, 1, none⟩ = some (.slice ao s.outs.length ko) := by rw [hw1]; first | (simp; done) | go_simp
 have cY1 : w1.cell? ⟨w.heap.size, 2, none⟩ = some (.slice ah s.hints.length kh) := by rw [hw1]; first | (simp; done) | go_simp
 have cZ1 : w1.cell? ⟨w.heap.size, 3, none⟩ = some (.slice ac s.cons.length kc) := by rw [hw1]; first | (simp; done) | go_simp
 have tO1 := tO.keep e1 (by omega)
 have tH1 := tH.keep e1 (by omega)
 have tC1 := tC.keep e1 (by omega)
 clear hw1
 refine (szLinS_ok o l h _ s.outs (n) _ tO1 (by omega) (by omega) (by omega)).mono ?_; rintro e w2 ⟨rfl, f2⟩
 have b2 := b1.trans (f2.mono (by omega))
 have z2 := f2.size
 have cX2 := cell_keep f2 cX1
 have cY2 := cell_keep f2 cY1
 have cZ2 := cell_keep f2 cZ1
 have tO2 := tO1.keep f2 (by omega)
 have tH2 := tH1.keep f2 (by omega)
 have tC2 := tC1.keep f2 (by omega)
 clear cX1 cY1 cZ1 tO1 tH1 tC1
 have lcX2 : w.heap.size < w2.heap.size := World.block_lt_of_cell? _ _ cX2
 go_wp2_with fail
 refine name_call fun w3 hw3 => ?_
 have b3 : Below w.heap.size w w3 := by rw [hw3]; (repeat (with_reducible first | exact bR _ _ | assumption | refine bD ?_ | refine bN ?_ _ | refine bA ?_ _ | refine bS ?_ _))
 have z3 : w2.heap.size + 0 ≤ w3.heap.size := by rw [hw3]; simp
 have e3 : Below w2.heap.size w2 w3 := by rw [hw3]; (repeat (with_reducible first | exact bR _ _ | assumption | refine bD ?_ | refine bN ?_ _ | refine bA ?_ _ | refine bS ?_ _))
 have cX3 := cell_keep e3 cX2
 have cY3 := cell_keep e3 cY2
 have cZ3 := cell_keep e3 cZ2
 have tO3 := tO2.keep e3 (by omega)
 have tH3 := tH2.keep e3 (by omega)
 have tC3 := tC2.keep e3 (by omega)
 clear hw3 lcX2 cX2 cY2 cZ2 tO2 tH2 tC2
 refine (szHintS_ok o l h _ s.hints (n - szLs s.outs) _ tH3 (by omega) (by omega) (by omega)).mono ?_; rintro e w4 ⟨rfl, f4⟩
 have b4 := b3.trans (f4.mono (by omega))
 have z4 := f4.size
 have cX4 := cell_keep f4 cX3
 have cY4 := cell_keep f4 cY3
 have cZ4 := cell_keep f4 cZ3
 have tO4 := tO3.keep f4 (by omega)
 have tH4 := tH3.keep f4 (by omega)
 have tC4 := tC3.keep f4 (by omega)
 clear cX3 cY3 cZ3 tO3 tH3 tC3
 have lcX4 : w.heap.size < w4.heap.size := World.block_lt_of_cell? _ _ cX4
 go_wp2_with fail
 refine name_call fun w5 hw5 => ?_
 have b5 : Below w.heap.size w w5 := by rw [hw5]; (repeat (with_reducible first | exact bR _ _ | assumption | refine bD ?_ | refine bN ?_ _ | refine bA ?_ _ | refine bS ?_ _))
 have z5 : w4.heap.size + 0 ≤ w5.heap.size := by rw [hw5]; simp
 have e5 : Below w4.heap.size w4 w5 := by rw [hw5]; (repeat (with_reducible first | exact bR _ _ | assumption | refine bD ?_ | refine bN ?_ _ | refine bA ?_ _ | refine bS ?_ _))
 have cX5 := cell_keep e5 cX4
 have cY5 := cell_keep e5 cY4
 have cZ5 := cell_keep e5 cZ4
 have tO5 := tO4.keep e5 (by omega)
 have tH5 := tH4.keep e5 (by omega)
 have tC5 := tC4.keep e5 (by omega)
 clear hw5 lcX4 cX4 cY4 cZ4 tO4 tH4 tC4
 refine (szConS_ok o l h _ s.cons (n - szLs s.outs - szHs s.hints) _ tC5 (by omega) (by omega) (by omega)).mono ?_; rintro e w6 ⟨rfl, f6⟩
 have b6 := b5.trans (f6.mono (by omega))
 have z6 := f6.size
 have cX6 := cell_keep f6 cX5
 have cY6 := cell_keep f6 cY5
 have cZ6 := cell_keep f6 cZ5
 have tO6 := tO5.keep f6 (by omega)
 have tH6 := tH5.keep f6 (by omega)
 have tC6 := tC5.keep f6 (by omega)
 clear cX5 cY5 cZ5 tO5 tH5 tC5
 go_wp2_with fail
 go_ret
 exact ⟨rfl, b6⟩

set_option maxRecDepth 100000 in
set_option maxHeartbeats 1600000 in
theorem szSys_no (o l h vi vo vh vc) (s : SysC) (n : Int) (w : World) (t : SysR o l h w vi vo vh vc s) (hw : h ≤ w.heap.size) (n0 : 0 ≤ n) (n1 : n ≤ 1048576) (hn : n < (szS s : Nat)) :
  Calls Tryz.prog 7 #[.agg #[vi, vo, vh, vc], .int .i64 n] w fun e w' => e = .returned (.int .i64 (-1)) ∧ Below w.heap.size w w' := by
 obtain ⟨tO, tH, tC⟩ := t.parts
 obtain ⟨ao, ko, ah, kh, ac, kc, rfl, rfl, rfl, rfl, lo, bo, lh, bh, lc, bc, fi⟩ := t.shape
 clear t
 by_cases hO : n < (szLs s.outs : Nat)
 ·skip
  go_enter Tryz.func7, Tryz.ntmps7
  go_wp2_with fail
  refine name_call fun w1 hw1 => ?_
  have b1 : Below w.heap.size w w1 := by rw [hw1]; (repeat (with_reducible first | exact bR _ _ | assumption | refine bD ?_ | refine bN ?_ _ | refine bA ?_ _ | refine bS ?_ _))
  have z1 : w.heap.size + 1 ≤ w1.heap.size := by rw [hw1]; simp
  have e1 : Below w.heap.size w w1 := by rw [hw1]; (repeat (with_reducible first | exact bR _ _ | assumption | refine bD ?_ | refine bN ?_ _ | refine bA ?_ _ | refine bS ?_ _))
  have cX1 : w1.cell? ⟨w.heap.size, 1, none⟩ = some (.slice ao s.outs.length ko) := by rw [hw1]; first | (simp; done) | go_simp
  have cY1 : w1.cell? ⟨w.heap.size, 2, none⟩ = some (.slice ah s.hints.length kh) := by rw [hw1]; first | (simp; done) | go_simp
  have cZ1 : w1.cell? ⟨w.heap.size, 3, none⟩ = some (.slice ac s.cons.length kc) := by rw [hw1]; first | (simp; done) | go_simp
  have tO1 := tO.keep e1 (by omega)
  have tH1 := tH.keep e1 (by omega)
  have tC1 := tC.keep e1 (by omega)
  clear hw1
  refine (szLinS_no o l h _ s.outs (n) _ tO1 (by omega) (by omega) (by omega) (by omega)).mono ?_; rintro e w2 ⟨rfl, f2⟩
  have b2 := b1.trans (f2.mono (by omega))
  have z2 := f2.size
  have cX2 := cell_keep f2 cX1
  have cY2 := cell_keep f2 cY1
  have cZ2 := cell_keep f2 cZ1
  have tO2 := tO1.keep f2 (by omega)
  have tH2 := tH1.keep f2 (by omega)
  have tC2 := tC1.keep f2 (by omega)
  clear cX1 cY1 cZ1 tO1 tH1 tC1
  go_wp2_with fail
  go_ret
  exact ⟨rfl, b2⟩
 ·by_cases hH : n - szLs s.outs < (szHs s.hints : Nat)
  ·skip
   have q0 : 0 ≤ n - szLs s.outs := by first | omega | (unfold szS at hn; omega)
   have q1 : n - szLs s.outs ≤ 1048576 := by omega
   go_enter Tryz.func7, Tryz.ntmps7
   go_wp2_with fail
   refine name_call fun w1 hw1 => ?_
   have b1 : Below w.heap.size w w1 := by rw [hw1]; (repeat (with_reducible first | exact bR _ _ | assumption | refine bD ?_ | refine bN ?_ _ | refine bA ?_ _ | refine bS ?_ _))
   have z1 : w.heap.size + 1 ≤ w1.heap.size := by rw [hw1]; simp
   have e1 : Below w.heap.size w w1 := by rw [hw1]; (repeat (with_reducible first | exact bR _ _ | assumption | refine bD ?_ | refine bN ?_ _ | refine bA ?_ _ | refine bS ?_ _))
   have cX1 : w1.cell? ⟨w.heap.size, 1, none⟩ = some (.slice ao s.outs.length ko) := by rw [hw1]; first | (simp; done) | go_simp
   have cY1 : w1.cell? ⟨w.heap.size, 2, none⟩ = some (.slice ah s.hints.length kh) := by rw [hw1]; first | (simp; done) | go_simp
   have cZ1 : w1.cell? ⟨w.heap.size, 3, none⟩ = some (.slice ac s.cons.length kc) := by rw [hw1]; first | (simp; done) | go_simp
   have tO1 := tO.keep e1 (by omega)
   have tH1 := tH.keep e1 (by omega)
   have tC1 := tC.keep e1 (by omega)
   clear hw1
   refine (szLinS_ok o l h _ s.outs (n) _ tO1 (by omega) (by omega) (by omega)).mono ?_; rintro e w2 ⟨rfl, f2⟩
   have b2 := b1.trans (f2.mono (by omega))
   have z2 := f2.size
   have cX2 := cell_keep f2 cX1
   have cY2 := cell_keep f2 cY1
   have cZ2 := cell_keep f2 cZ1
   have tO2 := tO1.keep f2 (by omega)
   have tH2 := tH1.keep f2 (by omega)
   have tC2 := tC1.keep f2 (by omega)
   clear cX1 cY1 cZ1 tO1 tH1 tC1
   have lcX2 : w.heap.size < w2.heap.size := World.block_lt_of_cell? _ _ cX2
   go_wp2_with fail
   refine name_call fun w3 hw3 => ?_
   have b3 : Below w.heap.size w w3 := by rw [hw3]; (repeat (with_reducible first | exact bR _ _ | assumption | refine bD ?_ | refine bN ?_ _ | refine bA ?_ _ | refine bS ?_ _))
   have z3 : w2.heap.size + 0 ≤ w3.heap.size := by rw [hw3]; simp
   have e3 : Below w2.heap.size w2 w3 := by rw [hw3]; (repeat (with_reducible first | exact bR _ _ | assumption | refine bD ?_ | refine bN ?_ _ | refine bA ?_ _ | refine bS ?_ _))
   have cX3 := cell_keep e3 cX2
   have cY3 := cell_keep e3 cY2
   have cZ3 := cell_keep e3 cZ2
   have tO3 := tO2.keep e3 (by omega)
   have tH3 := tH2.keep e3 (by omega)
   have tC3 := tC2.keep e3 (by omega)
   clear hw3 lcX2 cX2 cY2 cZ2 tO2 tH2 tC2
   refine (szHintS_no o l h _ s.hints (n - szLs s.outs) _ tH3 (by omega) (by omega) (by omega) (by omega)).mono ?_; rintro e w4 ⟨rfl, f4⟩
   have b4 := b3.trans (f4.mono (by omega))
   have z4 := f4.size
   have cX4 := cell_keep f4 cX3
   have cY4 := cell_keep f4 cY3
   have cZ4 := cell_keep f4 cZ3
   have tO4 := tO3.keep f4 (by omega)
   have tH4 := tH3.keep f4 (by omega)
   have tC4 := tC3.keep f4 (by omega)
   clear cX3 cY3 cZ3 tO3 tH3 tC3
   go_wp2_with fail
   go_ret
   exact ⟨rfl, b4⟩
  ·have hC : n - szLs s.outs - szHs s.hints < (szCs s.cons : Nat) := by unfold szS at hn; omega
   have q0 : 0 ≤ n - szLs s.outs := by first | omega | (unfold szS at hn; omega)
   have q1 : n - szLs s.outs ≤ 1048576 := by omega
   have q2 : 0 ≤ n - szLs s.outs - szHs s.hints := by first | omega | (unfold szS at hn; omega)
   have q3 : n - szLs s.outs - szHs s.hints ≤ 1048576 := by omega
   go_enter Tryz.func7, Tryz.ntmps7
   go_wp2_with fail
   refine name_call fun w1 hw1 => ?_
   have b1 : Below w.heap.size w w1 := by rw [hw1]; (repeat (with_reducible first | exact bR _ _ | assumption | refine bD ?_ | refine bN ?_ _ | refine bA ?_ _ | refine bS ?_ _))
   have z1 : w.heap.size + 1 ≤ w1.heap.size := by rw [hw1]; simp
   have e1 : Below w.heap.size w w1 := by rw [hw1]; (repeat (with_reducible first | exact bR _ _ | assumption | refine bD ?_ | refine bN ?_ _ | refine bA ?_ _ | refine bS ?_ _))
   have cX1 : w1.cell? ⟨w.heap.size, 1, none⟩ = some (.slice ao s.outs.length ko) := by rw [hw1]; first | (simp; done) | go_simp
   have cY1 : w1.cell? ⟨w.heap.size, 2, none⟩ = some (.slice ah s.hints.length kh) := by rw [hw1]; first | (simp; done) | go_simp
   have cZ1 : w1.cell? ⟨w.heap.size, 3, none⟩ = some (.slice ac s.cons.length kc) := by rw [hw1]; first | (simp; done) | go_simp
   have tO1 := tO.keep e1 (by omega)
   have tH1 := tH.keep e1 (by omega)
   have tC1 := tC.keep e1 (by omega)
   clear hw1
   refine (szLinS_ok o l h _ s.outs (n) _ tO1 (by omega) (by omega) (by omega)).mono ?_; rintro e w2 ⟨rfl, f2⟩
   have b2 := b1.trans (f2.mono (by omega))
   have z2 := f2.size
   have cX2 := cell_keep f2 cX1
   have cY2 := cell_keep f2 cY1
   have cZ2 := cell_keep f2 cZ1
   have tO2 := tO1.keep f2 (by omega)
   have tH2 := tH1.keep f2 (by omega)
   have tC2 := tC1.keep f2 (by omega)
   clear cX1 cY1 cZ1 tO1 tH1 tC1
   have lcX2 : w.heap.size < w2.heap.size := World.block_lt_of_cell? _ _ cX2
   go_wp2_with fail
   refine name_call fun w3 hw3 => ?_
   have b3 : Below w.heap.size w w3 := by rw [hw3]; (repeat (with_reducible first | exact bR _ _ | assumption | refine bD ?_ | refine bN ?_ _ | refine bA ?_ _ | refine bS ?_ _))
   have z3 : w2.heap.size + 0 ≤ w3.heap.size := by rw [hw3]; simp
   have e3 : Below w2.heap.size w2 w3 := by rw [hw3]; (repeat (with_reducible first | exact bR _ _ | assumption | refine bD ?_ | refine bN ?_ _ | refine bA ?_ _ | refine bS ?_ _))
   have cX3 := cell_keep e3 cX2
   have cY3 := cell_keep e3 cY2
   have cZ3 := cell_keep e3 cZ2
   have tO3 := tO2.keep e3 (by omega)
   have tH3 := tH2.keep e3 (by omega)
   have tC3 := tC2.keep e3 (by omega)
   clear hw3 lcX2 cX2 cY2 cZ2 tO2 tH2 tC2
   refine (szHintS_ok o l h _ s.hints (n - szLs s.outs) _ tH3 (by omega) (by omega) (by omega)).mono ?_; rintro e w4 ⟨rfl, f4⟩
   have b4 := b3.trans (f4.mono (by omega))
   have z4 := f4.size
   have cX4 := cell_keep f4 cX3
   have cY4 := cell_keep f4 cY3
   have cZ4 := cell_keep f4 cZ3
   have tO4 := tO3.keep f4 (by omega)
   have tH4 := tH3.keep f4 (by omega)
   have tC4 := tC3.keep f4 (by omega)
   clear cX3 cY3 cZ3 tO3 tH3 tC3
   have lcX4 : w.heap.size < w4.heap.size := World.block_lt_of_cell? _ _ cX4
   go_wp2_with fail
   refine name_call fun w5 hw5 => ?_
   have b5 : Below w.heap.size w w5 := by rw [hw5]; (repeat (with_reducible first | exact bR _ _ | assumption | refine bD ?_ | refine bN ?_ _ | refine bA ?_ _ | refine bS ?_ _))
   have z5 : w4.heap.size + 0 ≤ w5.heap.size := by rw [hw5]; simp
   have e5 : Below w4.heap.size w4 w5 := by rw [hw5]; (repeat (with_reducible first | exact bR _ _ | assumption | refine bD ?_ | refine bN ?_ _ | refine bA ?_ _ | refine bS ?_ _))
   have cX5 := cell_keep e5 cX4
   have cY5 := cell_keep e5 cY4
   have cZ5 := cell_keep e5 cZ4
   have tO5 := tO4.keep e5 (by omega)
   have tH5 := tH4.keep e5 (by omega)
   have tC5 := tC4.keep e5 (by omega)
   clear hw5 lcX4 cX4 cY4 cZ4 tO4 tH4 tC4
   refine (szConS_no o l h _ s.cons (n - szLs s.outs - szHs s.hints) _ tC5 (by omega) (by omega) (by omega) (by omega)).mono ?_; rintro e w6 ⟨rfl, f6⟩
   have b6 := b5.trans (f6.mono (by omega))
   have z6 := f6.size
   have cX6 := cell_keep f6 cX5
   have cY6 := cell_keep f6 cY5
   have cZ6 := cell_keep f6 cZ5
   have tO6 := tO5.keep f6 (by omega)
   have tH6 := tH5.keep f6 (by omega)
   have tC6 := tC5.keep f6 (by omega)
   clear cX5 cY5 cZ5 tO5 tH5 tC5
   go_wp2_with fail
   go_ret
   exact ⟨rfl, b6⟩
end Go.Proofs.YthipgpbapdambaaGreat.L

/- Slices of combinations, hints, constraints, and systems that read alike are told equal. -/
namespace Go.Proofs.YthipgpbapdambaaGreat.L
open Go.RowKit Go.Proofs.YthipgpbapdambaaGreat.S
set_option linter.unusedVariables false
set_option linter.unusedSimpArgs false

theorem eqLin_same (o1 l1 h1 v o2 l2 h2 u) (ts : List T) (w : World) (t1 : Terms o1 l1 h1 w v ts) (t2 : Terms o2 l2 h2 w u ts) (hw1 : h1 ≤ w.heap.size) (hw2 : h2 ≤ w.heap.size) :
  Calls Tryz.prog 91 #[.agg #[v], .agg #[u]] w fun e w' => e = .returned (.bool true) ∧ Below w.heap.size w w' := by
 have := eqLin_any o1 o2 l1 h1 l2 h2 v u ts ts w t1 t2 hw1 hw2
 rwa [dec_self] at this

set_option maxRecDepth 100000 in
set_option maxHeartbeats 1600000 in
theorem eqLinS_same (o1 l1 h1 v o2 l2 h2 u) (xs : List (List T)) (w : World) (t1 : LinS o1 l1 h1 w v xs) (t2 : LinS o2 l2 h2 w u xs) (hw1 : h1 ≤ w.heap.size) (hw2 : h2 ≤ w.heap.size) :
  Calls Tryz.prog 47 #[v, u] w fun e w' => e = .returned (.bool true) ∧ Below w.heap.size w w' := by
 obtain ⟨a, ca, rfl, la, ba⟩ := t1.shape
 obtain ⟨b, cb, rfl, lb, bb⟩ := t2.shape
 go_enter Tryz.func47, Tryz.ntmps47
 go_wp2_with fail
 go_loopw [5] (fun i wr => ∃ k : Nat, k ≤ xs.length ∧ i = .int .i64 k ∧ Below w.heap.size w wr) (fun i _ => xs.length - (intOf i).toNat)
 case atStart => exact ⟨0, Nat.zero_le _, rfl, Below.refl _ _⟩
 case round =>
  obtain ⟨k, hk, rfl, be⟩ := hrel
  by_cases hlt : k < xs.length
  ·have s1 := t1.keep be hw1
   have s2 := t2.keep be hw2
   obtain ⟨b1, f1, x, rfl, q1, m1, c1, d1⟩ := s1.at hlt
   obtain ⟨b2, f2, y, rfl, q2, m2, c2, d2⟩ := s2.at hlt
   obtain ⟨x, kx, rfl, lx, bx⟩ := d1.shape
   obtain ⟨y, ky, rfl, ly, by'⟩ := d2.shape
   have zb := be.size
   have dz : Below wr.heap.size wr wr.drew := (Below.refl _ _).drew
   have zd : wr.heap.size ≤ wr.drew.heap.size := Nat.le_refl _
   have ed1 := d1.keep dz (by omega)
   have ed2 := d2.keep dz (by omega)
   clear s1 s2
   go_wp2_with fail
   go_region_held3 (fun w' => w'.cell? ⟨b1, f1 + k, none⟩ = some (.slice x xs[k].length kx) ∧ w'.cell? ⟨b2, f2 + k, none⟩ = some (.slice y xs[k].length ky)) (first | exact ⟨c1, c2⟩ | exact ⟨cell_keep f c1, cell_keep f c2⟩)
    (first | (go_at_call 91; refine (eqLin_same o1 l1 h1 _ o2 l2 h2 _ xs[k] wr.drew ed1 ed2 (by omega) (by omega)).mono ?_; rintro e w2 ⟨rfl, f⟩))
   go_wp2_with fail
   go_roundw
   case rel => exact ⟨k + 1, by omega, by go_num, be.drew.trans (f.mono be.size)⟩
   case measure => simp [intOf]; omega
  ·go_wp2_with fail
   go_ret
   exact ⟨rfl, be⟩

set_option maxRecDepth 100000 in
set_option maxHeartbeats 1600000 in
theorem eqHint_same (o1 l1 h1 va vb o2 l2 h2 ua ub) (x : HintC) (w : World) (pa : Terms o1 l1 h1 w va x.a) (qa : Terms o2 l2 h2 w ua x.a) (pb : Terms o1 l1 h1 w vb x.b) (qb : Terms o2 l2 h2 w ub x.b) (hw1 : h1 ≤ w.heap.size) (hw2 : h2 ≤ w.heap.size) :
  Calls Tryz.prog 92 #[.agg #[.int .i64 x.kind, va, vb, .int .i64 x.k], .agg #[.int .i64 x.kind, ua, ub, .int .i64 x.k]] w fun e w' => e = .returned (.bool true) ∧ Below w.heap.size w w' := by
 obtain ⟨aa, ka, rfl, laa, baa⟩ := pa.shape
 obtain ⟨ca, ma, rfl, lca, bca⟩ := qa.shape
 obtain ⟨ab, kb, rfl, lab, bab⟩ := pb.shape
 obtain ⟨cb, mb, rfl, lcb, bcb⟩ := qb.shape
 go_enter Tryz.func92, Tryz.ntmps92
 go_wp2_with fail
 refine name_call fun w1 hw1 => ?_
 have b1 : Below w.heap.size w w1 := by rw [hw1]; (repeat (with_reducible first | exact bR _ _ | assumption | refine bD ?_ | refine bN ?_ _ | refine bA ?_ _ | refine bS ?_ _))
 have z1 : w.heap.size + 2 ≤ w1.heap.size := by rw [hw1]; simp
 have e1 : Below w.heap.size w w1 := by rw [hw1]; (repeat (with_reducible first | exact bR _ _ | assumption | refine bD ?_ | refine bN ?_ _ | refine bA ?_ _ | refine bS ?_ _))
 have cp01 : w1.cell? ⟨w.heap.size, 0, none⟩ = some (.int .i64 x.kind) := by rw [hw1]; first | (simp; done) | go_simp
 have cq01 : w1.cell? ⟨w.heap.size + 1, 0, none⟩ = some (.int .i64 x.kind) := by rw [hw1]; first | (simp; done) | go_simp
 have cp11 : w1.cell? ⟨w.heap.size, 1, none⟩ = some (.slice aa x.a.length ka) := by rw [hw1]; first | (simp; done) | go_simp
 have cq11 : w1.cell? ⟨w.heap.size + 1, 1, none⟩ = some (.slice ca x.a.length ma) := by rw [hw1]; first | (simp; done) | go_simp
 have cp21 : w1.cell? ⟨w.heap.size, 2, none⟩ = some (.slice ab x.b.length kb) := by rw [hw1]; first | (simp; done) | go_simp
 have cq21 : w1.cell? ⟨w.heap.size + 1, 2, none⟩ = some (.slice cb x.b.length mb) := by rw [hw1]; first | (simp; done) | go_simp
 have cp31 : w1.cell? ⟨w.heap.size, 3, none⟩ = some (.int .i64 x.k) := by rw [hw1]; first | (simp; done) | go_simp
 have cq31 : w1.cell? ⟨w.heap.size + 1, 3, none⟩ = some (.int .i64 x.k) := by rw [hw1]; first | (simp; done) | go_simp
 have tPa1 := pa.keep e1 (by omega)
 have tQa1 := qa.keep e1 (by omega)
 have tPb1 := pb.keep e1 (by omega)
 have tQb1 := qb.keep e1 (by omega)
 clear hw1
 refine (eqLin_same o1 l1 h1 _ o2 l2 h2 _ x.a _ tPa1 tQa1 (by omega) (by omega)).mono ?_; rintro e w2 ⟨rfl, f2⟩
 have b2 := b1.trans (f2.mono (by omega))
 have z2 := f2.size
 have cp02 := cell_keep f2 cp01
 have cq02 := cell_keep f2 cq01
 have cp12 := cell_keep f2 cp11
 have cq12 := cell_keep f2 cq11
 have cp22 := cell_keep f2 cp21
 have cq22 := cell_keep f2 cq21
 have cp32 := cell_keep f2 cp31
 have cq32 := cell_keep f2 cq31
 have tPa2 := tPa1.keep f2 (by omega)
 have tQa2 := tQa1.keep f2 (by omega)
 have tPb2 := tPb1.keep f2 (by omega)
 have tQb2 := tQb1.keep f2 (by omega)
 clear cp01 cq01 cp11 cq11 cp21 cq21 cp31 cq31 tPa1 tQa1 tPb1 tQb1
 have lcp02 : w.heap.size < w2.heap.size := World.block_lt_of_cell? _ _ cp02
 have lcq02 : w.heap.size + 1 < w2.heap.size := World.block_lt_of_cell? _ _ cq02
 go_wp2_with fail
 refine name_call fun w3 hw3 => ?_
 have b3 : Below w.heap.size w w3 := by rw [hw3]; (repeat (with_reducible first | exact bR _ _ | assumption | refine bD ?_ | refine bN ?_ _ | refine bA ?_ _ | refine bS ?_ _))
 have z3 : w2.heap.size + 0 ≤ w3.heap.size := by rw [hw3]; simp
 have e3 : Below w2.heap.size w2 w3 := by rw [hw3]; (repeat (with_reducible first | exact bR _ _ | assumption | refine bD ?_ | refine bN ?_ _ | refine bA ?_ _ | refine bS ?_ _))
 have cp03 := cell_keep e3 cp02
 have cq03 := cell_keep e3 cq02
 have cp13 := cell_keep e3 cp12
 have cq13 := cell_keep e3 cq12
 have cp23 := cell_keep e3 cp22
 have cq23 := cell_keep e3 cq22
 have cp33 := cell_keep e3 cp32
 have cq33 := cell_keep e3 cq32
 have tPa3 := tPa2.keep e3 (by omega)
 have tQa3 := tQa2.keep e3 (by omega)
 have tPb3 := tPb2.keep e3 (by omega)
 have tQb3 := tQb2.keep e3 (by omega)
 clear hw3 lcp02 lcq02 cp02 cq02 cp12 cq12 cp22 cq22 cp32 cq32 tPa2 tQa2 tPb2 tQb2
 refine (eqLin_same o1 l1 h1 _ o2 l2 h2 _ x.b _ tPb3 tQb3 (by omega) (by omega)).mono ?_; rintro e w4 ⟨rfl, f4⟩
 have b4 := b3.trans (f4.mono (by omega))
 have z4 := f4.size
 have cp04 := cell_keep f4 cp03
 have cq04 := cell_keep f4 cq03
 have cp14 := cell_keep f4 cp13
 have cq14 := cell_keep f4 cq13
 have cp24 := cell_keep f4 cp23
 have cq24 := cell_keep f4 cq23
 have cp34 := cell_keep f4 cp33
 have cq34 := cell_keep f4 cq33
 have tPa4 := tPa3.keep f4 (by omega)
 have tQa4 := tQa3.keep f4 (by omega)
 have tPb4 := tPb3.keep f4 (by omega)
 have tQb4 := tQb3.keep f4 (by omega)
 clear cp03 cq03 cp13 cq13 cp23 cq23 cp33 cq33 tPa3 tQa3 tPb3 tQb3
 go_wp2_with fail
 go_ret
 exact ⟨rfl, b4⟩

set_option maxRecDepth 100000 in
set_option maxHeartbeats 1600000 in
theorem eqCon_same (o1 l1 h1 va vb vc o2 l2 h2 ua ub uc) (x : ConC) (w : World) (pa : Terms o1 l1 h1 w va x.a) (qa : Terms o2 l2 h2 w ua x.a) (pb : Terms o1 l1 h1 w vb x.b) (qb : Terms o2 l2 h2 w ub x.b) (pc : Terms o1 l1 h1 w vc x.c) (qc : Terms o2 l2 h2 w uc x.c) (hw1 : h1 ≤ w.heap.size) (hw2 : h2 ≤ w.heap.size) :
  Calls Tryz.prog 93 #[.agg #[va, vb, vc], .agg #[ua, ub, uc]] w fun e w' => e = .returned (.bool true) ∧ Below w.heap.size w w' := by
 obtain ⟨aa, ka, rfl, laa, baa⟩ := pa.shape
 obtain ⟨ca, ma, rfl, lca, bca⟩ := qa.shape
 obtain ⟨ab, kb, rfl, lab, bab⟩ := pb.shape
 obtain ⟨cb, mb, rfl, lcb, bcb⟩ := qb.shape
 obtain ⟨ac, kc, rfl, lac, bac⟩ := pc.shape
 obtain ⟨cc, mc, rfl, lcc, bcc⟩ := qc.shape
 go_enter Tryz.func93, Tryz.ntmps93
 go_wp2_with fail
 refine name_call fun w1 hw1 => ?_
 have b1 : Below w.heap.size w w1 := by rw [hw1]; (repeat (with_reducible first | exact bR _ _ | assumption | refine bD ?_ | refine bN ?_ _ | refine bA ?_ _ | refine bS ?_ _))
 have z1 : w.heap.size + 2 ≤ w1.heap.size := by rw [hw1]; simp
 have e1 : Below w.heap.size w w1 := by rw [hw1]; (repeat (with_reducible first | exact bR _ _ | assumption | refine bD ?_ | refine bN ?_ _ | refine bA ?_ _ | refine bS ?_ _))
 have cp01 : w1.cell? ⟨w.heap.size, 0, none⟩ = some (.slice aa x.a.length ka) := by rw [hw1]; first | (simp; done) | go_simp
 have cq01 : w1.cell? ⟨w.heap.size + 1, 0, none⟩ = some (.slice ca x.a.length ma) := by rw [hw1]; first | (simp; done) | go_simp
 have cp11 : w1.cell? ⟨w.heap.size, 1, none⟩ = some (.slice ab x.b.length kb) := by rw [hw1]; first | (simp; done) | go_simp
 have cq11 : w1.cell? ⟨w.heap.size + 1, 1, none⟩ = some (.slice cb x.b.length mb) := by rw [hw1]; first | (simp; done) | go_simp
 have cp21 : w1.cell? ⟨w.heap.size, 2, none⟩ = some (.slice ac x.c.length kc) := by rw [hw1]; first | (simp; done) | go_simp
 have cq21 : w1.cell? ⟨w.heap.size + 1, 2, none⟩ = some (.slice cc x.c.length mc) := by rw [hw1]; first | (simp; done) | go_simp
 have tPa1 := pa.keep e1 (by omega)
 have tQa1 := qa.keep e1 (by omega)
 have tPb1 := pb.keep e1 (by omega)
 have tQb1 := qb.keep e1 (by omega)
 have tPc1 := pc.keep e1 (by omega)
 have tQc1 := qc.keep e1 (by omega)
 clear hw1
 refine (eqLin_same o1 l1 h1 _ o2 l2 h2 _ x.a _ tPa1 tQa1 (by omega) (by omega)).mono ?_; rintro e w2 ⟨rfl, f2⟩
 have b2 := b1.trans (f2.mono (by omega))
 have z2 := f2.size
 have cp02 := cell_keep f2 cp01
 have cq02 := cell_keep f2 cq01
 have cp12 := cell_keep f2 cp11
 have cq12 := cell_keep f2 cq11
 have cp22 := cell_keep f2 cp21
 have cq22 := cell_keep f2 cq21
 have tPa2 := tPa1.keep f2 (by omega)
 have tQa2 := tQa1.keep f2 (by omega)
 have tPb2 := tPb1.keep f2 (by omega)
 have tQb2 := tQb1.keep f2 (by omega)
 have tPc2 := tPc1.keep f2 (by omega)
 have tQc2 := tQc1.keep f2 (by omega)
 clear cp01 cq01 cp11 cq11 cp21 cq21 tPa1 tQa1 tPb1 tQb1 tPc1 tQc1
 have lcp02 : w.heap.size < w2.heap.size := World.block_lt_of_cell? _ _ cp02
 have lcq02 : w.heap.size + 1 < w2.heap.size := World.block_lt_of_cell? _ _ cq02
 go_wp2_with fail
 refine name_call fun w3 hw3 => ?_
 have b3 : Below w.heap.size w w3 := by rw [hw3]; (repeat (with_reducible first | exact bR _ _ | assumption | refine bD ?_ | refine bN ?_ _ | refine bA ?_ _ | refine bS ?_ _))
 have z3 : w2.heap.size + 0 ≤ w3.heap.size := by rw [hw3]; simp
 have e3 : Below w2.heap.size w2 w3 := by rw [hw3]; (repeat (with_reducible first | exact bR _ _ | assumption | refine bD ?_ | refine bN ?_ _ | refine bA ?_ _ | refine bS ?_ _))
 have cp03 := cell_keep e3 cp02
 have cq03 := cell_keep e3 cq02
 have cp13 := cell_keep e3 cp12
 have cq13 := cell_keep e3 cq12
 have cp23 := cell_keep e3 cp22
 have cq23 := cell_keep e3 cq22
 have tPa3 := tPa2.keep e3 (by omega)
 have tQa3 := tQa2.keep e3 (by omega)
 have tPb3 := tPb2.keep e3 (by omega)
 have tQb3 := tQb2.keep e3 (by omega)
 have tPc3 := tPc2.keep e3 (by omega)
 have tQc3 := tQc2.keep e3 (by omega)
 clear hw3 lcp02 lcq02 cp02 cq02 cp12 cq12 cp22 cq22 tPa2 tQa2 tPb2 tQb2 tPc2 tQc2
 refine (eqLin_same o1 l1 h1 _ o2 l2 h2 _ x.b _ tPb3 tQb3 (by omega) (by omega)).mono ?_; rintro e w4 ⟨rfl, f4⟩
 have b4 := b3.trans (f4.mono (by omega))
 have z4 := f4.size
 have cp04 := cell_keep f4 cp03
 have cq04 := cell_keep f4 cq03
 have cp14 := cell_keep f4 cp13
 have cq14 := cell_keep f4 cq13
 have cp24 := cell_keep f4 cp23
 have cq24 := cell_keep f4 cq23
 have tPa4 := tPa3.keep f4 (by omega)
 have tQa4 := tQa3.keep f4 (by omega)
 have tPb4 := tPb3.keep f4 (by omega)
 have tQb4 := tQb3.keep f4 (by omega)
 have tPc4 := tPc3.keep f4 (by omega)
 have tQc4 := tQc3.keep f4 (by omega)
 clear cp03 cq03 cp13 cq13 cp23 cq23 tPa3 tQa3 tPb3 tQb3 tPc3 tQc3
 have lcp04 : w.heap.size < w4.heap.size := World.block_lt_of_cell? _ _ cp04
 have lcq04 : w.heap.size + 1 < w4.heap.size := World.block_lt_of_cell? _ _ cq04
 go_wp2_with fail
 refine name_call fun w5 hw5 => ?_
 have b5 : Below w.heap.size w w5 := by rw [hw5]; (repeat (with_reducible first | exact bR _ _ | assumption | refine bD ?_ | refine bN ?_ _ | refine bA ?_ _ | refine bS ?_ _))
 have z5 : w4.heap.size + 0 ≤ w5.heap.size := by rw [hw5]; simp
 have e5 : Below w4.heap.size w4 w5 := by rw [hw5]; (repeat (with_reducible first | exact bR _ _ | assumption | refine bD ?_ | refine bN ?_ _ | refine bA ?_ _ | refine bS ?_ _))
 have cp05 := cell_keep e5 cp04
 have cq05 := cell_keep e5 cq04
 have cp15 := cell_keep e5 cp14
 have cq15 := cell_keep e5 cq14
 have cp25 := cell_keep e5 cp24
 have cq25 := cell_keep e5 cq24
 have tPa5 := tPa4.keep e5 (by omega)
 have tQa5 := tQa4.keep e5 (by omega)
 have tPb5 := tPb4.keep e5 (by omega)
 have tQb5 := tQb4.keep e5 (by omega)
 have tPc5 := tPc4.keep e5 (by omega)
 have tQc5 := tQc4.keep e5 (by omega)
 clear hw5 lcp04 lcq04 cp04 cq04 cp14 cq14 cp24 cq24 tPa4 tQa4 tPb4 tQb4 tPc4 tQc4
 refine (eqLin_same o1 l1 h1 _ o2 l2 h2 _ x.c _ tPc5 tQc5 (by omega) (by omega)).mono ?_; rintro e w6 ⟨rfl, f6⟩
 have b6 := b5.trans (f6.mono (by omega))
 have z6 := f6.size
 have cp06 := cell_keep f6 cp05
 have cq06 := cell_keep f6 cq05
 have cp16 := cell_keep f6 cp15
 have cq16 := cell_keep f6 cq15
 have cp26 := cell_keep f6 cp25
 have cq26 := cell_keep f6 cq25
 have tPa6 := tPa5.keep f6 (by omega)
 have tQa6 := tQa5.keep f6 (by omega)
 have tPb6 := tPb5.keep f6 (by omega)
 have tQb6 := tQb5.keep f6 (by omega)
 have tPc6 := tPc5.keep f6 (by omega)
 have tQc6 := tQc5.keep f6 (by omega)
 clear cp05 cq05 cp15 cq15 cp25 cq25 tPa5 tQa5 tPb5 tQb5 tPc5 tQc5
 go_wp2_with fail
 go_ret
 exact ⟨rfl, b6⟩

set_option maxRecDepth 100000 in
set_option maxHeartbeats 1600000 in
theorem eqHintS_same (o1 l1 h1 v o2 l2 h2 u) (xs : List HintC) (w : World) (t1 : HintS o1 l1 h1 w v xs) (t2 : HintS o2 l2 h2 w u xs) (hw1 : h1 ≤ w.heap.size) (hw2 : h2 ≤ w.heap.size) :
  Calls Tryz.prog 48 #[v, u] w fun e w' => e = .returned (.bool true) ∧ Below w.heap.size w w' := by
 obtain ⟨a, ca, rfl, la, ba⟩ := t1.shape
 obtain ⟨b, cb, rfl, lb, bb⟩ := t2.shape
 go_enter Tryz.func48, Tryz.ntmps48
 go_wp2_with fail
 go_loopw [5] (fun i wr => ∃ k : Nat, k ≤ xs.length ∧ i = .int .i64 k ∧ Below w.heap.size w wr) (fun i _ => xs.length - (intOf i).toNat)
 case atStart => exact ⟨0, Nat.zero_le _, rfl, Below.refl _ _⟩
 case round =>
  obtain ⟨k, hk, rfl, be⟩ := hrel
  by_cases hlt : k < xs.length
  ·have s1 := t1.keep be hw1
   have s2 := t2.keep be hw2
   obtain ⟨b1, f1, x1, x2, rfl, q1, m1, c0, c1, c2, c3, _, _, d1, d2⟩ := s1.at hlt
   obtain ⟨b2, f2, y1, y2, rfl, q2, m2, g0, g1, g2, g3, _, _, d3, d4⟩ := s2.at hlt
   obtain ⟨x1, kx1, rfl, lx1, bx1⟩ := d1.shape
   obtain ⟨x2, kx2, rfl, lx2, bx2⟩ := d2.shape
   obtain ⟨y1, ky1, rfl, ly1, by1⟩ := d3.shape
   obtain ⟨y2, ky2, rfl, ly2, by2⟩ := d4.shape
   have zb := be.size
   have dz : Below wr.heap.size wr wr.drew := (Below.refl _ _).drew
   have zd : wr.heap.size ≤ wr.drew.heap.size := Nat.le_refl _
   have ed1 := d1.keep dz (by omega)
   have ed2 := d2.keep dz (by omega)
   have ed3 := d3.keep dz (by omega)
   have ed4 := d4.keep dz (by omega)
   clear s1 s2
   go_wp2_with fail
   go_region_held3 (fun w' => w'.cell? ⟨b1, f1 + k * 4, none⟩ = some (.int .i64 xs[k].kind) ∧ w'.cell? ⟨b1, f1 + k * 4 + 1, none⟩ = some (.slice x1 xs[k].a.length kx1) ∧ w'.cell? ⟨b1, f1 + k * 4 + 2, none⟩ = some (.slice x2 xs[k].b.length kx2) ∧ w'.cell? ⟨b1, f1 + k * 4 + 3, none⟩ = some (.int .i64 xs[k].k) ∧ w'.cell? ⟨b2, f2 + k * 4, none⟩ = some (.int .i64 xs[k].kind) ∧ w'.cell? ⟨b2, f2 + k * 4 + 1, none⟩ = some (.slice y1 xs[k].a.length ky1) ∧ w'.cell? ⟨b2, f2 + k * 4 + 2, none⟩ = some (.slice y2 xs[k].b.length ky2) ∧ w'.cell? ⟨b2, f2 + k * 4 + 3, none⟩ = some (.int .i64 xs[k].k)) (first | exact ⟨c0, c1, c2, c3, g0, g1, g2, g3⟩ | exact ⟨cell_keep f c0, cell_keep f c1, cell_keep f c2, cell_keep f c3, cell_keep f g0, cell_keep f g1, cell_keep f g2, cell_keep f g3⟩)
    (first | (go_at_call 92; refine (eqHint_same o1 l1 h1 _ _ o2 l2 h2 _ _ xs[k] wr.drew ed1 ed3 ed2 ed4 (by omega) (by omega)).mono ?_; rintro e w2 ⟨rfl, f⟩))
   go_wp2_with fail
   go_roundw
   case rel => exact ⟨k + 1, by omega, by go_num, be.drew.trans (f.mono be.size)⟩
   case measure => simp [intOf]; omega
  ·go_wp2_with fail
   go_ret
   exact ⟨rfl, be⟩

set_option maxRecDepth 100000 in
set_option maxHeartbeats 1600000 in
theorem eqConS_same (o1 l1 h1 v o2 l2 h2 u) (xs : List ConC) (w : World) (t1 : ConS o1 l1 h1 w v xs) (t2 : ConS o2 l2 h2 w u xs) (hw1 : h1 ≤ w.heap.size) (hw2 : h2 ≤ w.heap.size) :
  Calls Tryz.prog 49 #[v, u] w fun e w' => e = .returned (.bool true) ∧ Below w.heap.size w w' := by
 obtain ⟨a, ca, rfl, la, ba⟩ := t1.shape
 obtain ⟨b, cb, rfl, lb, bb⟩ := t2.shape
 go_enter Tryz.func49, Tryz.ntmps49
 go_wp2_with fail
 go_loopw [5] (fun i wr => ∃ k : Nat, k ≤ xs.length ∧ i = .int .i64 k ∧ Below w.heap.size w wr) (fun i _ => xs.length - (intOf i).toNat)
 case atStart => exact ⟨0, Nat.zero_le _, rfl, Below.refl _ _⟩
 case round =>
  obtain ⟨k, hk, rfl, be⟩ := hrel
  by_cases hlt : k < xs.length
  ·have s1 := t1.keep be hw1
   have s2 := t2.keep be hw2
   obtain ⟨b1, f1, x1, x2, x3, rfl, q1, m1, c0, c1, c2, d1, d2, d3⟩ := s1.at hlt
   obtain ⟨b2, f2, y1, y2, y3, rfl, q2, m2, g0, g1, g2, d4, d5, d6⟩ := s2.at hlt
   obtain ⟨x1, kx1, rfl, lx1, bx1⟩ := d1.shape
   obtain ⟨x2, kx2, rfl, lx2, bx2⟩ := d2.shape
   obtain ⟨x3, kx3, rfl, lx3, bx3⟩ := d3.shape
   obtain ⟨y1, ky1, rfl, ly1, by1⟩ := d4.shape
   obtain ⟨y2, ky2, rfl, ly2, by2⟩ := d5.shape
   obtain ⟨y3, ky3, rfl, ly3, by3⟩ := d6.shape
   have zb := be.size
   have dz : Below wr.heap.size wr wr.drew := (Below.refl _ _).drew
   have zd : wr.heap.size ≤ wr.drew.heap.size := Nat.le_refl _
   have ed1 := d1.keep dz (by omega)
   have ed2 := d2.keep dz (by omega)
   have ed3 := d3.keep dz (by omega)
   have ed4 := d4.keep dz (by omega)
   have ed5 := d5.keep dz (by omega)
   have ed6 := d6.keep dz (by omega)
   clear s1 s2
   go_wp2_with fail
   go_region_held3 (fun w' => w'.cell? ⟨b1, f1 + k * 3, none⟩ = some (.slice x1 xs[k].a.length kx1) ∧ w'.cell? ⟨b1, f1 + k * 3 + 1, none⟩ = some (.slice x2 xs[k].b.length kx2) ∧ w'.cell? ⟨b1, f1 + k * 3 + 2, none⟩ = some (.slice x3 xs[k].c.length kx3) ∧ w'.cell? ⟨b2, f2 + k * 3, none⟩ = some (.slice y1 xs[k].a.length ky1) ∧ w'.cell? ⟨b2, f2 + k * 3 + 1, none⟩ = some (.slice y2 xs[k].b.length ky2) ∧ w'.cell? ⟨b2, f2 + k * 3 + 2, none⟩ = some (.slice y3 xs[k].c.length ky3)) (first | exact ⟨c0, c1, c2, g0, g1, g2⟩ | exact ⟨cell_keep f c0, cell_keep f c1, cell_keep f c2, cell_keep f g0, cell_keep f g1, cell_keep f g2⟩)
    (first | (go_at_call 93; refine (eqCon_same o1 l1 h1 _ _ _ o2 l2 h2 _ _ _ xs[k] wr.drew ed1 ed4 ed2 ed5 ed3 ed6 (by omega) (by omega)).mono ?_; rintro e w2 ⟨rfl, f⟩))
   go_wp2_with fail
   go_roundw
   case rel => exact ⟨k + 1, by omega, by go_num, be.drew.trans (f.mono be.size)⟩
   case measure => simp [intOf]; omega
  ·go_wp2_with fail
   go_ret
   exact ⟨rfl, be⟩

set_option maxRecDepth 100000 in
set_option maxHeartbeats 1600000 in
theorem eqSys0_same (o1 l1 h1 vouts vhints vcons o2 l2 h2 uouts uhints ucons) (x : SysC) (w : World) (pouts : LinS o1 l1 h1 w vouts x.outs) (qouts : LinS o2 l2 h2 w uouts x.outs) (phints : HintS o1 l1 h1 w vhints x.hints) (qhints : HintS o2 l2 h2 w uhints x.hints) (pcons : ConS o1 l1 h1 w vcons x.cons) (qcons : ConS o2 l2 h2 w ucons x.cons) (hw1 : h1 ≤ w.heap.size) (hw2 : h2 ≤ w.heap.size) :
  Calls Tryz.prog 13 #[.agg #[.int .i64 x.ins, vouts, vhints, vcons], .agg #[.int .i64 x.ins, uouts, uhints, ucons]] w fun e w' => e = .returned (.bool true) ∧ Below w.heap.size w w' := by
 obtain ⟨aouts, kouts, rfl, laouts, baouts⟩ := pouts.shape
 obtain ⟨couts, mouts, rfl, lcouts, bcouts⟩ := qouts.shape
 obtain ⟨ahints, khints, rfl, lahints, bahints⟩ := phints.shape
 obtain ⟨chints, mhints, rfl, lchints, bchints⟩ := qhints.shape
 obtain ⟨acons, kcons, rfl, lacons, bacons⟩ := pcons.shape
 obtain ⟨ccons, mcons, rfl, lccons, bccons⟩ := qcons.shape
 go_enter Tryz.func13, Tryz.ntmps13
 go_wp2_with fail
 refine name_call fun w1 hw1 => ?_
 have b1 : Below w.heap.size w w1 := by rw [hw1]; (repeat (with_reducible first | exact bR _ _ | assumption | refine bD ?_ | refine bN ?_ _ | refine bA ?_ _ | refine bS ?_ _))
 have z1 : w.heap.size + 2 ≤ w1.heap.size := by rw [hw1]; simp
 have e1 : Below w.heap.size w w1 := by rw [hw1]; (repeat (with_reducible first | exact bR _ _ | assumption | refine bD ?_ | refine bN ?_ _ | refine bA ?_ _ | refine bS ?_ _))
 have cp01 : w1.cell? ⟨w.heap.size, 0, none⟩ = some (.int .i64 x.ins) := by rw [hw1]; first | (simp; done) | go_simp
 have cq01 : w1.cell? ⟨w.heap.size + 1, 0, none⟩ = some (.int .i64 x.ins) := by rw [hw1]; first | (simp; done) | go_simp
 have cp11 : w1.cell? ⟨w.heap.size, 1, none⟩ = some (.slice aouts x.outs.length kouts) := by rw [hw1]; first | (simp; done) | go_simp
 have cq11 : w1.cell? ⟨w.heap.size + 1, 1, none⟩ = some (.slice couts x.outs.length mouts) := by rw [hw1]; first | (simp; done) | go_simp
 have cp21 : w1.cell? ⟨w.heap.size, 2, none⟩ = some (.slice ahints x.hints.length khints) := by rw [hw1]; first | (simp; done) | go_simp
 have cq21 : w1.cell? ⟨w.heap.size + 1, 2, none⟩ = some (.slice chints x.hints.length mhints) := by rw [hw1]; first | (simp; done) | go_simp
 have cp31 : w1.cell? ⟨w.heap.size, 3, none⟩ = some (.slice acons x.cons.length kcons) := by rw [hw1]; first | (simp; done) | go_simp
 have cq31 : w1.cell? ⟨w.heap.size + 1, 3, none⟩ = some (.slice ccons x.cons.length mcons) := by rw [hw1]; first | (simp; done) | go_simp
 have tPouts1 := pouts.keep e1 (by omega)
 have tQouts1 := qouts.keep e1 (by omega)
 have tPhints1 := phints.keep e1 (by omega)
 have tQhints1 := qhints.keep e1 (by omega)
 have tPcons1 := pcons.keep e1 (by omega)
 have tQcons1 := qcons.keep e1 (by omega)
 clear hw1
 refine (eqLinS_same o1 l1 h1 _ o2 l2 h2 _ x.outs _ tPouts1 tQouts1 (by omega) (by omega)).mono ?_; rintro e w2 ⟨rfl, f2⟩
 have b2 := b1.trans (f2.mono (by omega))
 have z2 := f2.size
 have cp02 := cell_keep f2 cp01
 have cq02 := cell_keep f2 cq01
 have cp12 := cell_keep f2 cp11
 have cq12 := cell_keep f2 cq11
 have cp22 := cell_keep f2 cp21
 have cq22 := cell_keep f2 cq21
 have cp32 := cell_keep f2 cp31
 have cq32 := cell_keep f2 cq31
 have tPouts2 := tPouts1.keep f2 (by omega)
 have tQouts2 := tQouts1.keep f2 (by omega)
 have tPhints2 := tPhints1.keep f2 (by omega)
 have tQhints2 := tQhints1.keep f2 (by omega)
 have tPcons2 := tPcons1.keep f2 (by omega)
 have tQcons2 := tQcons1.keep f2 (by omega)
 clear cp01 cq01 cp11 cq11 cp21 cq21 cp31 cq31 tPouts1 tQouts1 tPhints1 tQhints1 tPcons1 tQcons1
 have lcp02 : w.heap.size < w2.heap.size := World.block_lt_of_cell? _ _ cp02
 have lcq02 : w.heap.size + 1 < w2.heap.size := World.block_lt_of_cell? _ _ cq02
 go_wp2_with fail
 refine name_call fun w3 hw3 => ?_
 have b3 : Below w.heap.size w w3 := by rw [hw3]; (repeat (with_reducible first | exact bR _ _ | assumption | refine bD ?_ | refine bN ?_ _ | refine bA ?_ _ | refine bS ?_ _))
 have z3 : w2.heap.size + 0 ≤ w3.heap.size := by rw [hw3]; simp
 have e3 : Below w2.heap.size w2 w3 := by rw [hw3]; (repeat (with_reducible first | exact bR _ _ | assumption | refine bD ?_ | refine bN ?_ _ | refine bA ?_ _ | refine bS ?_ _))
 have cp03 := cell_keep e3 cp02
 have cq03 := cell_keep e3 cq02
 have cp13 := cell_keep e3 cp12
 have cq13 := cell_keep e3 cq12
 have cp23 := cell_keep e3 cp22
 have cq23 := cell_keep e3 cq22
 have cp33 := cell_keep e3 cp32
 have cq33 := cell_keep e3 cq32
 have tPouts3 := tPouts2.keep e3 (by omega)
 have tQouts3 := tQouts2.keep e3 (by omega)
 have tPhints3 := tPhints2.keep e3 (by omega)
 have tQhints3 := tQhints2.keep e3 (by omega)
 have tPcons3 := tPcons2.keep e3 (by omega)
 have tQcons3 := tQcons2.keep e3 (by omega)
 clear hw3 lcp02 lcq02 cp02 cq02 cp12 cq12 cp22 cq22 cp32 cq32 tPouts2 tQouts2 tPhints2 tQhints2 tPcons2 tQcons2
 refine (eqHintS_same o1 l1 h1 _ o2 l2 h2 _ x.hints _ tPhints3 tQhints3 (by omega) (by omega)).mono ?_; rintro e w4 ⟨rfl, f4⟩
 have b4 := b3.trans (f4.mono (by omega))
 have z4 := f4.size
 have cp04 := cell_keep f4 cp03
 have cq04 := cell_keep f4 cq03
 have cp14 := cell_keep f4 cp13
 have cq14 := cell_keep f4 cq13
 have cp24 := cell_keep f4 cp23
 have cq24 := cell_keep f4 cq23
 have cp34 := cell_keep f4 cp33
 have cq34 := cell_keep f4 cq33
 have tPouts4 := tPouts3.keep f4 (by omega)
 have tQouts4 := tQouts3.keep f4 (by omega)
 have tPhints4 := tPhints3.keep f4 (by omega)
 have tQhints4 := tQhints3.keep f4 (by omega)
 have tPcons4 := tPcons3.keep f4 (by omega)
 have tQcons4 := tQcons3.keep f4 (by omega)
 clear cp03 cq03 cp13 cq13 cp23 cq23 cp33 cq33 tPouts3 tQouts3 tPhints3 tQhints3 tPcons3 tQcons3
 have lcp04 : w.heap.size < w4.heap.size := World.block_lt_of_cell? _ _ cp04
 have lcq04 : w.heap.size + 1 < w4.heap.size := World.block_lt_of_cell? _ _ cq04
 go_wp2_with fail
 refine name_call fun w5 hw5 => ?_
 have b5 : Below w.heap.size w w5 := by rw [hw5]; (repeat (with_reducible first | exact bR _ _ | assumption | refine bD ?_ | refine bN ?_ _ | refine bA ?_ _ | refine bS ?_ _))
 have z5 : w4.heap.size + 0 ≤ w5.heap.size := by rw [hw5]; simp
 have e5 : Below w4.heap.size w4 w5 := by rw [hw5]; (repeat (with_reducible first | exact bR _ _ | assumption | refine bD ?_ | refine bN ?_ _ | refine bA ?_ _ | refine bS ?_ _))
 have cp05 := cell_keep e5 cp04
 have cq05 := cell_keep e5 cq04
 have cp15 := cell_keep e5 cp14
 have cq15 := cell_keep e5 cq14
 have cp25 := cell_keep e5 cp24
 have cq25 := cell_keep e5 cq24
 have cp35 := cell_keep e5 cp34
 have cq35 := cell_keep e5 cq34
 have tPouts5 := tPouts4.keep e5 (by omega)
 have tQouts5 := tQouts4.keep e5 (by omega)
 have tPhints5 := tPhints4.keep e5 (by omega)
 have tQhints5 := tQhints4.keep e5 (by omega)
 have tPcons5 := tPcons4.keep e5 (by omega)
 have tQcons5 := tQcons4.keep e5 (by omega)
 clear hw5 lcp04 lcq04 cp04 cq04 cp14 cq14 cp24 cq24 cp34 cq34 tPouts4 tQouts4 tPhints4 tQhints4 tPcons4 tQcons4
 refine (eqConS_same o1 l1 h1 _ o2 l2 h2 _ x.cons _ tPcons5 tQcons5 (by omega) (by omega)).mono ?_; rintro e w6 ⟨rfl, f6⟩
 have b6 := b5.trans (f6.mono (by omega))
 have z6 := f6.size
 have cp06 := cell_keep f6 cp05
 have cq06 := cell_keep f6 cq05
 have cp16 := cell_keep f6 cp15
 have cq16 := cell_keep f6 cq15
 have cp26 := cell_keep f6 cp25
 have cq26 := cell_keep f6 cq25
 have cp36 := cell_keep f6 cp35
 have cq36 := cell_keep f6 cq35
 have tPouts6 := tPouts5.keep f6 (by omega)
 have tQouts6 := tQouts5.keep f6 (by omega)
 have tPhints6 := tPhints5.keep f6 (by omega)
 have tQhints6 := tQhints5.keep f6 (by omega)
 have tPcons6 := tPcons5.keep f6 (by omega)
 have tQcons6 := tQcons5.keep f6 (by omega)
 clear cp05 cq05 cp15 cq15 cp25 cq25 cp35 cq35 tPouts5 tQouts5 tPhints5 tQhints5 tPcons5 tQcons5
 go_wp2_with fail
 go_ret
 exact ⟨rfl, b6⟩

theorem eqSys_same (o1 l1 h1 vi vo vh vc o2 l2 h2 ui uo uh uc) (x : SysC) (w : World) (t1 : SysR o1 l1 h1 w vi vo vh vc x) (t2 : SysR o2 l2 h2 w ui uo uh uc x) (hw1 : h1 ≤ w.heap.size) (hw2 : h2 ≤ w.heap.size) :
  Calls Tryz.prog 13 #[.agg #[vi, vo, vh, vc], .agg #[ui, uo, uh, uc]] w fun e w' => e = .returned (.bool true) ∧ Below w.heap.size w w' := by
 obtain ⟨a1, a2, a3⟩ := t1.parts
 obtain ⟨b1, b2, b3⟩ := t2.parts
 rw [t1.1, t2.1]
 exact eqSys0_same o1 l1 h1 _ _ _ o2 l2 h2 _ _ _ x w a1 b1 a2 b2 a3 b3 hw1 hw2
end Go.Proofs.YthipgpbapdambaaGreat.L

/- Copies of slices of combinations, hints, constraints, and of systems. -/
namespace Go.Proofs.YthipgpbapdambaaGreat.L
open Go.RowKit Go.Proofs.YthipgpbapdambaaGreat.S
set_option linter.unusedVariables false
set_option linter.unusedSimpArgs false

/-- The copy behind k rounds. -/
def cp {α : Type} (d : α) (xs : List α) (k : Nat) : List α := xs.take k ++ List.replicate (xs.length - k) d
theorem cp_length {α : Type} (d : α) (xs : List α) (k : Nat) (h : k ≤ xs.length) : (cp d xs k).length = xs.length := by unfold cp; simp; omega
theorem cp_zero {α : Type} (d : α) (xs : List α) : cp d xs 0 = List.replicate xs.length d := by simp [cp]
theorem cp_end {α : Type} (d : α) (xs : List α) : cp d xs xs.length = xs := by simp [cp]
theorem cp_set {α : Type} (d : α) (xs : List α) (k : Nat) (h : k < xs.length) : (cp d xs k).set k xs[k] = cp d xs (k + 1) := by
 have hl : (xs.take k).length = k := by simp; omega
 unfold cp
 rw [List.set_append_right _ _ (by omega), hl, Nat.sub_self, show xs.length - k = xs.length - (k + 1) + 1 from by omega, List.replicate_succ, List.set_cons_zero, take_step (List.getElem?_eq_getElem h), List.append_assoc]
 rfl

theorem made_rep (zs : List Value) (n : Nat) : (madeCells zs.toArray (n * zs.length)).toList = (List.replicate n zs).flatten := by
 apply List.ext_getElem?
 intro i
 by_cases hz : zs.length = 0
 ·have : zs = [] := List.eq_nil_of_length_eq_zero hz
  subst this
  simp [madeCells]
 ·by_cases hi : i < n * zs.length
  ·have hlt : i / zs.length < n := (Nat.div_lt_iff_lt_mul (by omega)).2 hi
   have hm : i % zs.length < zs.length := Nat.mod_lt _ (by omega)
   have e := Shape.flat_at (d := zs.length) (css := List.replicate n zs) (fun c hc => by rw [(List.mem_replicate.1 hc).2]) (j := i / zs.length) (f := i % zs.length) (cs := zs) (by rw [List.getElem?_replicate, if_pos hlt]) hm
   rw [show i / zs.length * zs.length + i % zs.length = i from by rw [Nat.mul_comm]; exact Nat.div_add_mod i _] at e
   rw [e]
   simp [madeCells, hi, List.getElem?_eq_getElem hm]
  ·have hl := Shape.flat_length (d := zs.length) (css := List.replicate n zs) (fun c hc => by rw [(List.mem_replicate.1 hc).2])
   rw [List.getElem?_eq_none (by simp [madeCells]; omega), List.getElem?_eq_none (by rw [hl]; simp; omega)]

namespace Shape
variable {α : Type} {E : Shape α}
/-- A row of zero values just made. -/
theorem row_made {w : World} {base n : Nat} {e : TypeId} {v : Value} {zs : List Value} {d : α} (hz : zs.length = E.wd) (hd : ∀ l h w, E.rep true l h w zs d)
  (hr : w.ownsRow base e E.wd v n (madeCells zs.toArray (n * zs.length)).toList) (hb : base ≤ w.heap.size) : (row E).rep true base w.heap.size w [v] (List.replicate n d) := by
 rw [made_rep] at hr
 refine row_owns (css := List.replicate n zs) (by simpa using hr) (by simp) (fun c hc => by rw [(List.mem_replicate.1 hc).2, hz]) (Nat.le_refl _) (Nat.le_refl _) (fun _ => w.heap.size) (fun _ => w.heap.size) ⟨fun g o m cap hv j hj => .inl ?_, fun _ _ _ _ => .inl (Nat.le_refl _)⟩ (fun j x cs hx hc => ?_)
 ·rcases hr.2 with ⟨rfl, _⟩ | ⟨g', cap', cur, rfl, _⟩
  ·cases hv
  ·cases hv; exact (hr.lt _ rfl).2
 ·rw [List.getElem?_replicate] at hx hc
  split at hx
  ·rw [if_pos ‹_›] at hc
   simp only [Option.some.injEq] at hx hc
   subst hx; subst hc
   exact ⟨hb, Nat.le_refl _, hd _ _ _⟩
  ·cases hx
theorem Chg.wide {b s n L H L' H' : Nat} {w w' : World} (c : Chg b s n L H w w') (h1 : L' ≤ L) (h2 : H ≤ H') : Chg b s n L' H' w w' := ⟨c.size, fun k a1 a2 a3 => c.block k a1 a2 (by omega), c.cell, c.frozen⟩
/-- An element of a row of one's own is replaced by one that lies in new memory. -/
theorem row_fill {l h : Nat} {w : World} {b n cap : Nat} {xs : List α} (t : (row E).rep true l h w [.slice (some ⟨b, 0, none⟩) n cap] xs) {j : Nat} (hj : j < xs.length) (hh : h ≤ w.heap.size) :
  b < h ∧ (∃ cs : List Value, cs.length = E.wd ∧ ∀ f c, cs[f]? = some c → w.cell? ⟨b, j * E.wd + f, none⟩ = some c) ∧ (∀ i, w.frozen? ⟨b, i, none⟩ = false) ∧
   ∀ w' cs' x' L' h', Chg b (j * E.wd) E.wd L' L' w w' → (∀ f c, cs'[f]? = some c → w'.cell? ⟨b, j * E.wd + f, none⟩ = some c) → E.rep true L' h' w cs' x' → Same L' h' w w' → h ≤ L' → h ≤ h' →
    (row E).rep true l h' w' [.slice (some ⟨b, 0, none⟩) n cap] (xs.set j x') := by
 obtain ⟨b', off, cs, L, H, e, h1, h2, h3, h4, hc, hr, ho⟩ := row_focus t hj
 simp only [Option.some.injEq, Addr.mk.injEq, and_true] at e
 obtain ⟨rfl, rfl⟩ := e
 obtain ⟨o1, o2, o3⟩ := ho rfl
 refine ⟨h2, ⟨cs, E.len hr, fun f c hf => by have := hc f c hf; rwa [Nat.zero_add] at this⟩, o2, fun w' cs' x' L' h' hch hcs hrep hsame hL hhh => ?_⟩
 refine o3 w' cs' x' L' h' h' ?_ (fun f c hf => by rw [Nat.zero_add]; exact hcs f c hf) (E.agree hrep hsame) hh hhh (.inr ⟨hL, Nat.le_refl _⟩)
 rw [Nat.zero_add]
 exact ⟨hch.size, fun k a1 a2 a3 => hch.block k a1 a2 (by omega), hch.cell, hch.frozen⟩
end Shape

theorem same_set {l h b o : Nat} {w : World} {u : Value} (hb : b < l) : Same l h w (w.setCell ⟨b, o, none⟩ u) := fun k h1 h2 => Below.heap_setCell _ _ _ _ (by simp; omega)
theorem Same.trans {l h : Nat} {a b c : World} (s : Same l h a b) (t : Same l h b c) : Same l h a c := fun k h1 h2 => (t k h1 h2).trans (s k h1 h2)

theorem linInfo : (Tryz.prog.info? 53).map (fun i => (i.zero, i.size, i.bytes)) = some (some (.agg #[.slice none 0 0]), 1, 24) := by kernel_rfl

theorem LinS.made {w : World} {base n : Nat} {v : Value} (hr : w.ownsRow base 53 1 v n (madeCells #[.slice none 0 0] (n * 1)).toList) (hb : base ≤ w.heap.size) : LinS true base w.heap.size w v (List.replicate n []) :=
 Shape.row_made (E := Shape.lin) (zs := [.slice none 0 0]) (d := ([] : List T)) rfl (fun l h w => ⟨_, rfl, Terms.nil _ _ _ _⟩) hr hb
theorem LinS.fill {l h : Nat} {w : World} {b n cap : Nat} {xs : List (List T)} (t : LinS true l h w (.slice (some ⟨b, 0, none⟩) n cap) xs) {j : Nat} (hj : j < xs.length) (hh : h ≤ w.heap.size) :
  (∃ c, w.cell? ⟨b, j, none⟩ = some c) ∧ w.frozen? ⟨b, j, none⟩ = false ∧ ∀ u ts L' h', Terms true L' h' w u ts → h ≤ L' → h ≤ h' → LinS true l h' (w.setCell ⟨b, j, none⟩ u) (.slice (some ⟨b, 0, none⟩) n cap) (xs.set j ts) := by
 obtain ⟨hb, ⟨cs, hl, hc⟩, hf, hu⟩ := Shape.row_fill (E := Shape.lin) t hj hh
 match cs, hl with
 | [c0], _ =>
  have c := hc 0 c0 rfl
  simp only [show Shape.lin.wd = 1 from rfl, Nat.mul_one, Nat.add_zero] at c hu
  refine ⟨⟨c0, c⟩, hf j, fun u ts L' h' tu hL hhh => ?_⟩
  refine hu _ [u] ts L' h' ((Shape.Chg.refl _ _ _ _ _ _).setCell (Nat.le_refl _) (by omega) u) (fun f x hx => ?_) ⟨u, rfl, tu⟩ (same_set (by omega)) hL hhh
  match f, hx with
  | 0, hx => simp only [List.getElem?_cons_zero, Option.some.injEq] at hx; subst hx; exact World.cell?_setCell_same _ _ _ c

set_option maxRecDepth 100000 in
set_option maxHeartbeats 1600000 in
theorem toLinS_any (o l h v) (xs : List (List T)) (w : World) (t : LinS o l h w v xs) (hw : h ≤ w.heap.size) (hlen : xs.length ≤ 1048576) (hel : ∀ t ∈ xs, t.length ≤ 1048576) :
  Calls Tryz.prog 40 #[v] w fun e w' => ∃ u, e = .returned u ∧ Below w.heap.size w w' ∧ LinS true w.heap.size w'.heap.size w' u xs := by
 obtain ⟨a, ca, rfl, la, ba⟩ := t.shape
 obtain ⟨i0, hi, hz0, hz1, hz2⟩ := info_parts linInfo
 have HE := Lib.hid hel
 clear hel
 go_enter Tryz.func40, Tryz.ntmps40
 go_wp2_with (refine wpList_make_full _ rfl _ _ 31 rfl w.heap.size 53 i0 (.agg #[.slice none 0 0]) 1 Tryz.underlying31 hi hz0 hz1 .i64 .i64 _ _ xs.length rfl rfl rfl rfl (by rw [hz2]; omega) (by unfold maxLen; omega) (Nat.le_refl _) ?_; intro w1 hown hgr)
 have be1 : Below w.heap.size w w1 := (Below.refl _ _).grown hgr (Nat.le_refl _) (fun k e => by simp at e)
 have m1 := LinS.made hown be1.size
 rw [← cp_zero] at m1
 clear hown hgr hi hz0 hz1 hz2
 go_loopw [4] (fun i wr => ∃ k : Nat, k ≤ xs.length ∧ i = .int .i64 k ∧ Below w.heap.size w wr ∧ LinS true w.heap.size wr.heap.size wr (Value.slice (some ⟨w.heap.size, 0, none⟩) xs.length xs.length) (cp [] xs k)) (fun i _ => xs.length - (intOf i).toNat)
 case atStart => exact ⟨0, Nat.zero_le _, rfl, be1, m1⟩
 case round =>
  obtain ⟨k, hk, rfl, be, hm⟩ := hrel
  clear be1 m1
  have zb := be.size
  by_cases hlt : k < xs.length
  ·obtain ⟨b, off, u, rfl, l1, m1, c1, tu⟩ := (t.keep be hw).at hlt
   obtain ⟨x, kx, rfl, lx, bx⟩ := tu.shape
   have hx1 := HE.out _ (List.getElem_mem hlt)
   go_wp2_with fail
   refine (toLin_any o l h _ xs[k] _ tu (by omega) hx1).mono ?_; rintro e w2 ⟨u2, rfl, f2, r2⟩
   obtain ⟨y, ky, rfl, ly, bly⟩ := r2.shape
   have be2 := be.trans (f2.mono be.size)
   have z2 := f2.size
   have hm2 := hm.keep f2 (Nat.le_refl _)
   have hcl := cp_length [] xs k hk
   obtain ⟨⟨cz, cw⟩, fw, st⟩ := hm2.fill (j := k) (by omega) z2
   have st2 := st _ _ _ _ r2 (Nat.le_refl _) z2
   rw [cp_set [] xs k hlt] at st2
   have be4 := be2.setCell (p := ⟨w.heap.size, k, none⟩) (Nat.le_refl _) (.slice y xs[k].length ky)
   clear hm hm2 st r2 be be2 hcl hx1
   go_wp2_with fail
   go_roundw
   case rel => exact ⟨k + 1, by omega, by go_num, be4, by simpa [World.setCell] using st2⟩
   case measure => simp [intOf]; omega
  ·obtain rfl : k = xs.length := by omega
   rw [cp_end] at hm
   go_wp2_with fail
   go_ret
   exact ⟨_, rfl, be, hm⟩
end Go.Proofs.YthipgpbapdambaaGreat.L

/- Copies of hints and constraints. -/
namespace Go.Proofs.YthipgpbapdambaaGreat.L
open Go.RowKit Go.Proofs.YthipgpbapdambaaGreat.S
set_option linter.unusedVariables false
set_option linter.unusedSimpArgs false

theorem Same.refl (l h : Nat) (w : World) : Same l h w w := fun _ _ _ => rfl
theorem Same.set {l h b o : Nat} {a w : World} {u : Value} (s : Same l h a w) (hb : b < l) : Same l h a (w.setCell ⟨b, o, none⟩ u) := s.trans (same_set hb)

set_option maxRecDepth 100000 in
set_option maxHeartbeats 3200000 in
theorem toHint_any (o l h va vb) (x : HintC) (w : World) (ta : Terms o l h w va x.a) (tb : Terms o l h w vb x.b) (hw : h ≤ w.heap.size) (na : x.a.length ≤ 1048576) (nb : x.b.length ≤ 1048576) :
  Calls Tryz.prog 85 #[.agg #[.int .i64 x.kind, va, vb, .int .i64 x.k]] w fun e w' => ∃ ua ub M1, e = .returned (.agg #[.int .i64 x.kind, ua, ub, .int .i64 x.k]) ∧ Below w.heap.size w w' ∧ w.heap.size ≤ M1 ∧ M1 ≤ w'.heap.size ∧ Terms true w.heap.size M1 w' ua x.a ∧ Terms true M1 w'.heap.size w' ub x.b := by
 obtain ⟨aa, ka, rfl, laa, baa⟩ := ta.shape
 obtain ⟨ab, kb, rfl, lab, bab⟩ := tb.shape
 go_enter Tryz.func85, Tryz.ntmps85
 go_wp2_with fail
 refine name_call fun W0 hW0 => ?_
 have B0 : Below w.heap.size w W0 := by rw [hW0]; (repeat (with_reducible first | exact bR _ _ | assumption | refine bD ?_ | refine bN ?_ _ | refine bA ?_ _ | refine bS ?_ _))
 have Z0 : W0.heap.size = w.heap.size + 3 := by rw [hW0]; simp
 have p00 : W0.cell? ⟨w.heap.size, 0, none⟩ = some (.int .i64 x.kind) := by rw [hW0]; go_simp
 have p01 : W0.cell? ⟨w.heap.size, 1, none⟩ = some (.slice aa x.a.length ka) := by rw [hW0]; go_simp
 have p02 : W0.cell? ⟨w.heap.size, 2, none⟩ = some (.slice ab x.b.length kb) := by rw [hW0]; go_simp
 have p03 : W0.cell? ⟨w.heap.size, 3, none⟩ = some (.int .i64 x.k) := by rw [hW0]; go_simp
 have q00 : W0.cell? ⟨w.heap.size + 1 + 1, 0, none⟩ = some (.int .i64 x.kind) := by rw [hW0]; go_simp
 have r00 : W0.cell? ⟨w.heap.size + 1, 0, none⟩ = some (.int .i64 0) := by rw [hW0]; go_simp
 have q01 : W0.cell? ⟨w.heap.size + 1 + 1, 1, none⟩ = some (.slice none 0 0) := by rw [hW0]; go_simp
 have r01 : W0.cell? ⟨w.heap.size + 1, 1, none⟩ = some (.slice none 0 0) := by rw [hW0]; go_simp
 have q02 : W0.cell? ⟨w.heap.size + 1 + 1, 2, none⟩ = some (.slice none 0 0) := by rw [hW0]; go_simp
 have r02 : W0.cell? ⟨w.heap.size + 1, 2, none⟩ = some (.slice none 0 0) := by rw [hW0]; go_simp
 have q03 : W0.cell? ⟨w.heap.size + 1 + 1, 3, none⟩ = some (.int .i64 0) := by rw [hW0]; go_simp
 have r03 : W0.cell? ⟨w.heap.size + 1, 3, none⟩ = some (.int .i64 0) := by rw [hW0]; go_simp
 have F0 : ∀ i, W0.frozen? ⟨w.heap.size + 1 + 1, i, none⟩ = false := by intro i; rw [hW0]; go_simp
 have G0 : ∀ i, W0.frozen? ⟨w.heap.size + 1, i, none⟩ = false := by intro i; rw [hW0]; go_simp
 have s0a := ta.keep B0 hw
 have s0b := tb.keep B0 hw
 clear hW0
 refine (toLin_any o l h _ x.a _ s0a (by omega) na).mono ?_; rintro e w0 ⟨z0, rfl, f0, yy0a⟩
 obtain ⟨ca, ma, rfl, lca, bca⟩ := yy0a.shape
 have bb0 := B0.trans (f0.mono (by omega))
 have zz0 := f0.size
 have pp00 := cell_keep f0 p00
 have qq00 := cell_keep f0 q00
 have rr00 := cell_keep f0 r00
 have pp01 := cell_keep f0 p01
 have qq01 := cell_keep f0 q01
 have rr01 := cell_keep f0 r01
 have pp02 := cell_keep f0 p02
 have qq02 := cell_keep f0 q02
 have rr02 := cell_keep f0 r02
 have pp03 := cell_keep f0 p03
 have qq03 := cell_keep f0 q03
 have rr03 := cell_keep f0 r03
 have FF0 : ∀ i, w0.frozen? ⟨w.heap.size + 1 + 1, i, none⟩ = false := fun j => (f0.frozen (p := ⟨w.heap.size + 1 + 1, j, none⟩) (show w.heap.size + 1 + 1 < W0.heap.size by omega)).trans (F0 j)
 have GG0 : ∀ i, w0.frozen? ⟨w.heap.size + 1, i, none⟩ = false := fun j => (f0.frozen (p := ⟨w.heap.size + 1, j, none⟩) (show w.heap.size + 1 < W0.heap.size by omega)).trans (G0 j)
 clear p00 q00 r00 p01 q01 r01 p02 q02 r02 p03 q03 r03 F0 G0 s0a s0b 
 have lt0 : w.heap.size + 1 + 1 < w0.heap.size := by omega
 have lu0 : w.heap.size + 1 < w0.heap.size := by omega
 have lv0 : w.heap.size < w0.heap.size := by omega
 go_wp2_with fail
 clear lt0 lu0 lv0
 refine name_call fun W1 hW1 => ?_
 have B1 : Below w.heap.size w W1 := by rw [hW1]; exact Below.setCell bb0 (by simp; omega) _
 have Z1 : W1.heap.size = w0.heap.size := by rw [hW1]; simp [World.setCell]
 have p10 := (show W1.cell? ⟨w.heap.size, 0, none⟩ = w0.cell? ⟨w.heap.size, 0, none⟩ by rw [hW1]; exact World.cell?_setCell_other _ _ _ _ (by simp)).trans pp00
 have r10 := (show W1.cell? ⟨w.heap.size + 1, 0, none⟩ = w0.cell? ⟨w.heap.size + 1, 0, none⟩ by rw [hW1]; exact World.cell?_setCell_other _ _ _ _ (by simp)).trans rr00
 have q10 := (show W1.cell? ⟨w.heap.size + 1 + 1, 0, none⟩ = w0.cell? ⟨w.heap.size + 1 + 1, 0, none⟩ by rw [hW1]; exact World.cell?_setCell_other _ _ _ _ (by simp)).trans qq00
 have p11 := (show W1.cell? ⟨w.heap.size, 1, none⟩ = w0.cell? ⟨w.heap.size, 1, none⟩ by rw [hW1]; exact World.cell?_setCell_other _ _ _ _ (by simp)).trans pp01
 have r11 := (show W1.cell? ⟨w.heap.size + 1, 1, none⟩ = w0.cell? ⟨w.heap.size + 1, 1, none⟩ by rw [hW1]; exact World.cell?_setCell_other _ _ _ _ (by simp)).trans rr01
 have q11 : W1.cell? ⟨w.heap.size + 1 + 1, 1, none⟩ = some (.slice ca x.a.length ma) := by rw [hW1]; exact World.cell?_setCell_same _ _ _ qq01
 have p12 := (show W1.cell? ⟨w.heap.size, 2, none⟩ = w0.cell? ⟨w.heap.size, 2, none⟩ by rw [hW1]; exact World.cell?_setCell_other _ _ _ _ (by simp)).trans pp02
 have r12 := (show W1.cell? ⟨w.heap.size + 1, 2, none⟩ = w0.cell? ⟨w.heap.size + 1, 2, none⟩ by rw [hW1]; exact World.cell?_setCell_other _ _ _ _ (by simp)).trans rr02
 have q12 := (show W1.cell? ⟨w.heap.size + 1 + 1, 2, none⟩ = w0.cell? ⟨w.heap.size + 1 + 1, 2, none⟩ by rw [hW1]; exact World.cell?_setCell_other _ _ _ _ (by simp)).trans qq02
 have p13 := (show W1.cell? ⟨w.heap.size, 3, none⟩ = w0.cell? ⟨w.heap.size, 3, none⟩ by rw [hW1]; exact World.cell?_setCell_other _ _ _ _ (by simp)).trans pp03
 have r13 := (show W1.cell? ⟨w.heap.size + 1, 3, none⟩ = w0.cell? ⟨w.heap.size + 1, 3, none⟩ by rw [hW1]; exact World.cell?_setCell_other _ _ _ _ (by simp)).trans rr03
 have q13 := (show W1.cell? ⟨w.heap.size + 1 + 1, 3, none⟩ = w0.cell? ⟨w.heap.size + 1 + 1, 3, none⟩ by rw [hW1]; exact World.cell?_setCell_other _ _ _ _ (by simp)).trans qq03
 have F1 : ∀ i, W1.frozen? ⟨w.heap.size + 1 + 1, i, none⟩ = false := by intro i; rw [hW1, World.frozen?_setCell]; exact FF0 i
 have G1 : ∀ i, W1.frozen? ⟨w.heap.size + 1, i, none⟩ = false := by intro i; rw [hW1, World.frozen?_setCell]; exact GG0 i
 have s1b := tb.keep B1 hw
 have y1a := yy0a.agree (show Same _ _ w0 W1 by rw [hW1]; exact same_set (by omega))
 clear hW1 pp00 qq00 rr00 pp01 qq01 rr01 pp02 qq02 rr02 pp03 qq03 rr03 FF0 GG0 yy0a
 refine (toLin_any o l h _ x.b _ s1b (by omega) nb).mono ?_; rintro e w1 ⟨z1, rfl, f1, yy1b⟩
 obtain ⟨cb, mb, rfl, lcb, bcb⟩ := yy1b.shape
 have bb1 := B1.trans (f1.mono (by omega))
 have zz1 := f1.size
 have pp10 := cell_keep f1 p10
 have qq10 := cell_keep f1 q10
 have rr10 := cell_keep f1 r10
 have pp11 := cell_keep f1 p11
 have qq11 := cell_keep f1 q11
 have rr11 := cell_keep f1 r11
 have pp12 := cell_keep f1 p12
 have qq12 := cell_keep f1 q12
 have rr12 := cell_keep f1 r12
 have pp13 := cell_keep f1 p13
 have qq13 := cell_keep f1 q13
 have rr13 := cell_keep f1 r13
 have FF1 : ∀ i, w1.frozen? ⟨w.heap.size + 1 + 1, i, none⟩ = false := fun j => (f1.frozen (p := ⟨w.heap.size + 1 + 1, j, none⟩) (show w.heap.size + 1 + 1 < W1.heap.size by omega)).trans (F1 j)
 have GG1 : ∀ i, w1.frozen? ⟨w.heap.size + 1, i, none⟩ = false := fun j => (f1.frozen (p := ⟨w.heap.size + 1, j, none⟩) (show w.heap.size + 1 < W1.heap.size by omega)).trans (G1 j)
 have yy1a := y1a.keep f1 (by omega)
 clear p10 q10 r10 p11 q11 r11 p12 q12 r12 p13 q13 r13 F1 G1 s1b y1a
 have lt1 : w.heap.size + 1 + 1 < w1.heap.size := by omega
 have lu1 : w.heap.size + 1 < w1.heap.size := by omega
 have lv1 : w.heap.size < w1.heap.size := by omega
 go_wp2_with fail
 refine bodyPost_ret (v := .agg #[.int .i64 x.kind, .slice ca x.a.length ma, .slice cb x.b.length mb, .int .i64 x.k]) (by simp [results, Tryz.results85, go_sem, qq10, rr10, qq11, rr11, qq12, rr12, qq13, rr13]) rfl ⟨_, _, w0.heap.size, rfl, ?_, by (try simp only [World.setCell]); (try simp); omega, by (try simp only [World.setCell]); (try simp); omega, ?_, ?_⟩
 ·(repeat (with_reducible first | exact bR _ _ | assumption | refine bD ?_ | refine bN ?_ _ | refine bA ?_ _ | refine bS ?_ _))
 ·exact (yy1a.agree (by (repeat (first | with_reducible exact Same.refl _ _ _ | with_reducible refine Same.set ?_ (by omega))))).mono (by omega) (by first | omega | simp [World.setCell])
 ·exact (yy1b.agree (by (repeat (first | with_reducible exact Same.refl _ _ _ | with_reducible refine Same.set ?_ (by omega))))).mono (by omega) (by first | omega | simp [World.setCell])

set_option maxRecDepth 100000 in
set_option maxHeartbeats 3200000 in
theorem toCon_any (o l h va vb vc) (x : ConC) (w : World) (ta : Terms o l h w va x.a) (tb : Terms o l h w vb x.b) (tc : Terms o l h w vc x.c) (hw : h ≤ w.heap.size) (na : x.a.length ≤ 1048576) (nb : x.b.length ≤ 1048576) (nc : x.c.length ≤ 1048576) :
  Calls Tryz.prog 86 #[.agg #[va, vb, vc]] w fun e w' => ∃ ua ub uc M1 M2, e = .returned (.agg #[ua, ub, uc]) ∧ Below w.heap.size w w' ∧ w.heap.size ≤ M1 ∧ M1 ≤ M2 ∧ M2 ≤ w'.heap.size ∧ Terms true w.heap.size M1 w' ua x.a ∧ Terms true M1 M2 w' ub x.b ∧ Terms true M2 w'.heap.size w' uc x.c := by
 obtain ⟨aa, ka, rfl, laa, baa⟩ := ta.shape
 obtain ⟨ab, kb, rfl, lab, bab⟩ := tb.shape
 obtain ⟨ac, kc, rfl, lac, bac⟩ := tc.shape
 go_enter Tryz.func86, Tryz.ntmps86
 go_wp2_with fail
 refine name_call fun W0 hW0 => ?_
 have B0 : Below w.heap.size w W0 := by rw [hW0]; (repeat (with_reducible first | exact bR _ _ | assumption | refine bD ?_ | refine bN ?_ _ | refine bA ?_ _ | refine bS ?_ _))
 have Z0 : W0.heap.size = w.heap.size + 3 := by rw [hW0]; simp
 have p00 : W0.cell? ⟨w.heap.size, 0, none⟩ = some (.slice aa x.a.length ka) := by rw [hW0]; go_simp
 have p01 : W0.cell? ⟨w.heap.size, 1, none⟩ = some (.slice ab x.b.length kb) := by rw [hW0]; go_simp
 have p02 : W0.cell? ⟨w.heap.size, 2, none⟩ = some (.slice ac x.c.length kc) := by rw [hW0]; go_simp
 have q00 : W0.cell? ⟨w.heap.size + 1 + 1, 0, none⟩ = some (.slice none 0 0) := by rw [hW0]; go_simp
 have r00 : W0.cell? ⟨w.heap.size + 1, 0, none⟩ = some (.slice none 0 0) := by rw [hW0]; go_simp
 have q01 : W0.cell? ⟨w.heap.size + 1 + 1, 1, none⟩ = some (.slice none 0 0) := by rw [hW0]; go_simp
 have r01 : W0.cell? ⟨w.heap.size + 1, 1, none⟩ = some (.slice none 0 0) := by rw [hW0]; go_simp
 have q02 : W0.cell? ⟨w.heap.size + 1 + 1, 2, none⟩ = some (.slice none 0 0) := by rw [hW0]; go_simp
 have r02 : W0.cell? ⟨w.heap.size + 1, 2, none⟩ = some (.slice none 0 0) := by rw [hW0]; go_simp
 have F0 : ∀ i, W0.frozen? ⟨w.heap.size + 1 + 1, i, none⟩ = false := by intro i; rw [hW0]; go_simp
 have G0 : ∀ i, W0.frozen? ⟨w.heap.size + 1, i, none⟩ = false := by intro i; rw [hW0]; go_simp
 have s0a := ta.keep B0 hw
 have s0b := tb.keep B0 hw
 have s0c := tc.keep B0 hw
 clear hW0
 refine (toLin_any o l h _ x.a _ s0a (by omega) na).mono ?_; rintro e w0 ⟨z0, rfl, f0, yy0a⟩
 obtain ⟨ca, ma, rfl, lca, bca⟩ := yy0a.shape
 have bb0 := B0.trans (f0.mono (by omega))
 have zz0 := f0.size
 have pp00 := cell_keep f0 p00
 have qq00 := cell_keep f0 q00
 have rr00 := cell_keep f0 r00
 have pp01 := cell_keep f0 p01
 have qq01 := cell_keep f0 q01
 have rr01 := cell_keep f0 r01
 have pp02 := cell_keep f0 p02
 have qq02 := cell_keep f0 q02
 have rr02 := cell_keep f0 r02
 have FF0 : ∀ i, w0.frozen? ⟨w.heap.size + 1 + 1, i, none⟩ = false := fun j => (f0.frozen (p := ⟨w.heap.size + 1 + 1, j, none⟩) (show w.heap.size + 1 + 1 < W0.heap.size by omega)).trans (F0 j)
 have GG0 : ∀ i, w0.frozen? ⟨w.heap.size + 1, i, none⟩ = false := fun j => (f0.frozen (p := ⟨w.heap.size + 1, j, none⟩) (show w.heap.size + 1 < W0.heap.size by omega)).trans (G0 j)
 clear p00 q00 r00 p01 q01 r01 p02 q02 r02 F0 G0 s0a s0b s0c 
 have lt0 : w.heap.size + 1 + 1 < w0.heap.size := by omega
 have lu0 : w.heap.size + 1 < w0.heap.size := by omega
 have lv0 : w.heap.size < w0.heap.size := by omega
 go_wp2_with fail
 clear lt0 lu0 lv0
 refine name_call fun W1 hW1 => ?_
 have B1 : Below w.heap.size w W1 := by rw [hW1]; exact Below.setCell bb0 (by simp; omega) _
 have Z1 : W1.heap.size = w0.heap.size := by rw [hW1]; simp [World.setCell]
 have p10 := (show W1.cell? ⟨w.heap.size, 0, none⟩ = w0.cell? ⟨w.heap.size, 0, none⟩ by rw [hW1]; exact World.cell?_setCell_other _ _ _ _ (by simp)).trans pp00
 have r10 := (show W1.cell? ⟨w.heap.size + 1, 0, none⟩ = w0.cell? ⟨w.heap.size + 1, 0, none⟩ by rw [hW1]; exact World.cell?_setCell_other _ _ _ _ (by simp)).trans rr00
 have q10 : W1.cell? ⟨w.heap.size + 1 + 1, 0, none⟩ = some (.slice ca x.a.length ma) := by rw [hW1]; exact World.cell?_setCell_same _ _ _ qq00
 have p11 := (show W1.cell? ⟨w.heap.size, 1, none⟩ = w0.cell? ⟨w.heap.size, 1, none⟩ by rw [hW1]; exact World.cell?_setCell_other _ _ _ _ (by simp)).trans pp01
 have r11 := (show W1.cell? ⟨w.heap.size + 1, 1, none⟩ = w0.cell? ⟨w.heap.size + 1, 1, none⟩ by rw [hW1]; exact World.cell?_setCell_other _ _ _ _ (by simp)).trans rr01
 have q11 := (show W1.cell? ⟨w.heap.size + 1 + 1, 1, none⟩ = w0.cell? ⟨w.heap.size + 1 + 1, 1, none⟩ by rw [hW1]; exact World.cell?_setCell_other _ _ _ _ (by simp)).trans qq01
 have p12 := (show W1.cell? ⟨w.heap.size, 2, none⟩ = w0.cell? ⟨w.heap.size, 2, none⟩ by rw [hW1]; exact World.cell?_setCell_other _ _ _ _ (by simp)).trans pp02
 have r12 := (show W1.cell? ⟨w.heap.size + 1, 2, none⟩ = w0.cell? ⟨w.heap.size + 1, 2, none⟩ by rw [hW1]; exact World.cell?_setCell_other _ _ _ _ (by simp)).trans rr02
 have q12 := (show W1.cell? ⟨w.heap.size + 1 + 1, 2, none⟩ = w0.cell? ⟨w.heap.size + 1 + 1, 2, none⟩ by rw [hW1]; exact World.cell?_setCell_other _ _ _ _ (by simp)).trans qq02
 have F1 : ∀ i, W1.frozen? ⟨w.heap.size + 1 + 1, i, none⟩ = false := by intro i; rw [hW1, World.frozen?_setCell]; exact FF0 i
 have G1 : ∀ i, W1.frozen? ⟨w.heap.size + 1, i, none⟩ = false := by intro i; rw [hW1, World.frozen?_setCell]; exact GG0 i
 have s1b := tb.keep B1 hw
 have s1c := tc.keep B1 hw
 have y1a := yy0a.agree (show Same _ _ w0 W1 by rw [hW1]; exact same_set (by omega))
 clear hW1 pp00 qq00 rr00 pp01 qq01 rr01 pp02 qq02 rr02 FF0 GG0 yy0a
 refine (toLin_any o l h _ x.b _ s1b (by omega) nb).mono ?_; rintro e w1 ⟨z1, rfl, f1, yy1b⟩
 obtain ⟨cb, mb, rfl, lcb, bcb⟩ := yy1b.shape
 have bb1 := B1.trans (f1.mono (by omega))
 have zz1 := f1.size
 have pp10 := cell_keep f1 p10
 have qq10 := cell_keep f1 q10
 have rr10 := cell_keep f1 r10
 have pp11 := cell_keep f1 p11
 have qq11 := cell_keep f1 q11
 have rr11 := cell_keep f1 r11
 have pp12 := cell_keep f1 p12
 have qq12 := cell_keep f1 q12
 have rr12 := cell_keep f1 r12
 have FF1 : ∀ i, w1.frozen? ⟨w.heap.size + 1 + 1, i, none⟩ = false := fun j => (f1.frozen (p := ⟨w.heap.size + 1 + 1, j, none⟩) (show w.heap.size + 1 + 1 < W1.heap.size by omega)).trans (F1 j)
 have GG1 : ∀ i, w1.frozen? ⟨w.heap.size + 1, i, none⟩ = false := fun j => (f1.frozen (p := ⟨w.heap.size + 1, j, none⟩) (show w.heap.size + 1 < W1.heap.size by omega)).trans (G1 j)
 have yy1a := y1a.keep f1 (by omega)
 clear p10 q10 r10 p11 q11 r11 p12 q12 r12 F1 G1 s1b s1c y1a
 have lt1 : w.heap.size + 1 + 1 < w1.heap.size := by omega
 have lu1 : w.heap.size + 1 < w1.heap.size := by omega
 have lv1 : w.heap.size < w1.heap.size := by omega
 go_wp2_with fail
 clear lt1 lu1 lv1
 refine name_call fun W2 hW2 => ?_
 have B2 : Below w.heap.size w W2 := by rw [hW2]; exact Below.setCell bb1 (by simp; omega) _
 have Z2 : W2.heap.size = w1.heap.size := by rw [hW2]; simp [World.setCell]
 have p20 := (show W2.cell? ⟨w.heap.size, 0, none⟩ = w1.cell? ⟨w.heap.size, 0, none⟩ by rw [hW2]; exact World.cell?_setCell_other _ _ _ _ (by simp)).trans pp10
 have r20 := (show W2.cell? ⟨w.heap.size + 1, 0, none⟩ = w1.cell? ⟨w.heap.size + 1, 0, none⟩ by rw [hW2]; exact World.cell?_setCell_other _ _ _ _ (by simp)).trans rr10
 have q20 := (show W2.cell? ⟨w.heap.size + 1 + 1, 0, none⟩ = w1.cell? ⟨w.heap.size + 1 + 1, 0, none⟩ by rw [hW2]; exact World.cell?_setCell_other _ _ _ _ (by simp)).trans qq10
 have p21 := (show W2.cell? ⟨w.heap.size, 1, none⟩ = w1.cell? ⟨w.heap.size, 1, none⟩ by rw [hW2]; exact World.cell?_setCell_other _ _ _ _ (by simp)).trans pp11
 have r21 := (show W2.cell? ⟨w.heap.size + 1, 1, none⟩ = w1.cell? ⟨w.heap.size + 1, 1, none⟩ by rw [hW2]; exact World.cell?_setCell_other _ _ _ _ (by simp)).trans rr11
 have q21 : W2.cell? ⟨w.heap.size + 1 + 1, 1, none⟩ = some (.slice cb x.b.length mb) := by rw [hW2]; exact World.cell?_setCell_same _ _ _ qq11
 have p22 := (show W2.cell? ⟨w.heap.size, 2, none⟩ = w1.cell? ⟨w.heap.size, 2, none⟩ by rw [hW2]; exact World.cell?_setCell_other _ _ _ _ (by simp)).trans pp12
 have r22 := (show W2.cell? ⟨w.heap.size + 1, 2, none⟩ = w1.cell? ⟨w.heap.size + 1, 2, none⟩ by rw [hW2]; exact World.cell?_setCell_other _ _ _ _ (by simp)).trans rr12
 have q22 := (show W2.cell? ⟨w.heap.size + 1 + 1, 2, none⟩ = w1.cell? ⟨w.heap.size + 1 + 1, 2, none⟩ by rw [hW2]; exact World.cell?_setCell_other _ _ _ _ (by simp)).trans qq12
 have F2 : ∀ i, W2.frozen? ⟨w.heap.size + 1 + 1, i, none⟩ = false := by intro i; rw [hW2, World.frozen?_setCell]; exact FF1 i
 have G2 : ∀ i, W2.frozen? ⟨w.heap.size + 1, i, none⟩ = false := by intro i; rw [hW2, World.frozen?_setCell]; exact GG1 i
 have s2c := tc.keep B2 hw
 have y2a := yy1a.agree (show Same _ _ w1 W2 by rw [hW2]; exact same_set (by omega))
 have y2b := yy1b.agree (show Same _ _ w1 W2 by rw [hW2]; exact same_set (by omega))
 clear hW2 pp10 qq10 rr10 pp11 qq11 rr11 pp12 qq12 rr12 FF1 GG1 yy1a yy1b
 refine (toLin_any o l h _ x.c _ s2c (by omega) nc).mono ?_; rintro e w2 ⟨z2, rfl, f2, yy2c⟩
 obtain ⟨cc, mc, rfl, lcc, bcc⟩ := yy2c.shape
 have bb2 := B2.trans (f2.mono (by omega))
 have zz2 := f2.size
 have pp20 := cell_keep f2 p20
 have qq20 := cell_keep f2 q20
 have rr20 := cell_keep f2 r20
 have pp21 := cell_keep f2 p21
 have qq21 := cell_keep f2 q21
 have rr21 := cell_keep f2 r21
 have pp22 := cell_keep f2 p22
 have qq22 := cell_keep f2 q22
 have rr22 := cell_keep f2 r22
 have FF2 : ∀ i, w2.frozen? ⟨w.heap.size + 1 + 1, i, none⟩ = false := fun j => (f2.frozen (p := ⟨w.heap.size + 1 + 1, j, none⟩) (show w.heap.size + 1 + 1 < W2.heap.size by omega)).trans (F2 j)
 have GG2 : ∀ i, w2.frozen? ⟨w.heap.size + 1, i, none⟩ = false := fun j => (f2.frozen (p := ⟨w.heap.size + 1, j, none⟩) (show w.heap.size + 1 < W2.heap.size by omega)).trans (G2 j)
 have yy2a := y2a.keep f2 (by omega)
 have yy2b := y2b.keep f2 (by omega)
 clear p20 q20 r20 p21 q21 r21 p22 q22 r22 F2 G2 s2c y2a y2b
 have lt2 : w.heap.size + 1 + 1 < w2.heap.size := by omega
 have lu2 : w.heap.size + 1 < w2.heap.size := by omega
 have lv2 : w.heap.size < w2.heap.size := by omega
 go_wp2_with fail
 refine bodyPost_ret (v := .agg #[.slice ca x.a.length ma, .slice cb x.b.length mb, .slice cc x.c.length mc]) (by simp [results, Tryz.results86, go_sem, qq20, rr20, qq21, rr21, qq22, rr22]) rfl ⟨_, _, _, w0.heap.size, w1.heap.size, rfl, ?_, by (try simp only [World.setCell]); (try simp); omega, by (try simp only [World.setCell]); (try simp); omega, by (try simp only [World.setCell]); (try simp); omega, ?_, ?_, ?_⟩
 ·(repeat (with_reducible first | exact bR _ _ | assumption | refine bD ?_ | refine bN ?_ _ | refine bA ?_ _ | refine bS ?_ _))
 ·exact (yy2a.agree (by (repeat (first | with_reducible exact Same.refl _ _ _ | with_reducible refine Same.set ?_ (by omega))))).mono (by omega) (by first | omega | simp [World.setCell])
 ·exact (yy2b.agree (by (repeat (first | with_reducible exact Same.refl _ _ _ | with_reducible refine Same.set ?_ (by omega))))).mono (by omega) (by first | omega | simp [World.setCell])
 ·exact (yy2c.agree (by (repeat (first | with_reducible exact Same.refl _ _ _ | with_reducible refine Same.set ?_ (by omega))))).mono (by omega) (by first | omega | simp [World.setCell])
end Go.Proofs.YthipgpbapdambaaGreat.L

/- Copies of slices of hints and constraints, and of systems. -/
namespace Go.Proofs.YthipgpbapdambaaGreat.L
open Go.RowKit Go.Proofs.YthipgpbapdambaaGreat.S
set_option linter.unusedVariables false
set_option linter.unusedSimpArgs false

theorem HintInfo : (Tryz.prog.info? 92).map (fun i => (i.zero, i.size, i.bytes)) = some (some (.agg #[.int .i64 0, .slice none 0 0, .slice none 0 0, .int .i64 0]), 4, 64) := by kernel_rfl
theorem HintS.made {w : World} {base n : Nat} {v : Value} (hr : w.ownsRow base 92 4 v n (madeCells #[.int .i64 0, .slice none 0 0, .slice none 0 0, .int .i64 0] (n * 4)).toList) (hb : base ≤ w.heap.size) : HintS true base w.heap.size w v (List.replicate n ⟨0, [], [], 0⟩) :=
 Shape.row_made (E := hintSh) (zs := [.int .i64 0, .slice none 0 0, .slice none 0 0, .int .i64 0]) (d := (⟨0, [], [], 0⟩ : HintC)) rfl (fun l h w => ⟨_, _, l, min l h, l, min l h, rfl, by unfold Fits; simp, by unfold Fits; simp, Nat.le_refl _, Nat.min_le_right _ _, Nat.le_refl _, Nat.min_le_right _ _, fun _ => .inl (Nat.min_le_left _ _), Terms.nil _ _ _ _, Terms.nil _ _ _ _⟩) hr hb
set_option maxHeartbeats 1600000 in
theorem HintS.fill {l h : Nat} {w : World} {b n cap : Nat} {xs : List HintC} (t : HintS true l h w (.slice (some ⟨b, 0, none⟩) n cap) xs) {j : Nat} (hj : j < xs.length) (hh : h ≤ w.heap.size) :
  (∃ c0 c1 c2 c3, w.cell? ⟨b, j * 4, none⟩ = some c0 ∧ w.cell? ⟨b, j * 4 + 1, none⟩ = some c1 ∧ w.cell? ⟨b, j * 4 + 2, none⟩ = some c2 ∧ w.cell? ⟨b, j * 4 + 3, none⟩ = some c3) ∧ (∀ i, w.frozen? ⟨b, i, none⟩ = false) ∧ ∀ (x : HintC) ua ub L' M1 h', Fits x.kind → Fits x.k → Terms true L' M1 w ua x.a → Terms true M1 h' w ub x.b → h ≤ L' → L' ≤ M1 → M1 ≤ h' → h ≤ h' → h' ≤ w.heap.size →
   HintS true l h' ((((w.setCell ⟨b, j * 4, none⟩ (.int .i64 x.kind)).setCell ⟨b, j * 4 + 1, none⟩ ua).setCell ⟨b, j * 4 + 2, none⟩ ub).setCell ⟨b, j * 4 + 3, none⟩ (.int .i64 x.k)) (.slice (some ⟨b, 0, none⟩) n cap) (xs.set j x) := by
 obtain ⟨hb, ⟨cs, hl, hc⟩, hf, hu⟩ := Shape.row_fill (E := hintSh) t hj hh
 match cs, hl with
 | [c0, c1, c2, c3], _ =>
  have k0 : w.cell? ⟨b, j * 4, none⟩ = some c0 := hc 0 c0 rfl
  have k1 : w.cell? ⟨b, j * 4 + 1, none⟩ = some c1 := hc 1 c1 rfl
  have k2 : w.cell? ⟨b, j * 4 + 2, none⟩ = some c2 := hc 2 c2 rfl
  have k3 : w.cell? ⟨b, j * 4 + 3, none⟩ = some c3 := hc 3 c3 rfl
  refine ⟨⟨c0, c1, c2, c3, k0, k1, k2, k3⟩, hf, fun x ua ub L' M1 h' fkind fk ta tb hL g0 g1 hhh hhs => ?_⟩
  have hs : Same L' h' w ((((w.setCell ⟨b, j * 4, none⟩ (.int .i64 x.kind)).setCell ⟨b, j * 4 + 1, none⟩ ua).setCell ⟨b, j * 4 + 2, none⟩ ub).setCell ⟨b, j * 4 + 3, none⟩ (.int .i64 x.k)) := Same.set (Same.set (Same.set (Same.set (Same.refl _ _ _) (by omega)) (by omega)) (by omega)) (by omega)
  have m0 : ((((w.setCell ⟨b, j * 4, none⟩ (.int .i64 x.kind)).setCell ⟨b, j * 4 + 1, none⟩ ua).setCell ⟨b, j * 4 + 2, none⟩ ub).setCell ⟨b, j * 4 + 3, none⟩ (.int .i64 x.k)).cell? ⟨b, j * 4, none⟩ = some (.int .i64 x.kind) := ((World.cell?_setCell_other _ _ _ _ (by simp <;> omega)).trans ((World.cell?_setCell_other _ _ _ _ (by simp <;> omega)).trans ((World.cell?_setCell_other _ _ _ _ (by simp <;> omega)).trans (World.cell?_setCell_same _ _ (.int .i64 x.kind) k0))))
  have m1 : ((((w.setCell ⟨b, j * 4, none⟩ (.int .i64 x.kind)).setCell ⟨b, j * 4 + 1, none⟩ ua).setCell ⟨b, j * 4 + 2, none⟩ ub).setCell ⟨b, j * 4 + 3, none⟩ (.int .i64 x.k)).cell? ⟨b, j * 4 + 1, none⟩ = some ua := ((World.cell?_setCell_other _ _ _ _ (by simp <;> omega)).trans ((World.cell?_setCell_other _ _ _ _ (by simp <;> omega)).trans (World.cell?_setCell_same _ _ ua ((World.cell?_setCell_other _ _ _ _ (by simp <;> omega)).trans k1))))
  have m2 : ((((w.setCell ⟨b, j * 4, none⟩ (.int .i64 x.kind)).setCell ⟨b, j * 4 + 1, none⟩ ua).setCell ⟨b, j * 4 + 2, none⟩ ub).setCell ⟨b, j * 4 + 3, none⟩ (.int .i64 x.k)).cell? ⟨b, j * 4 + 2, none⟩ = some ub := ((World.cell?_setCell_other _ _ _ _ (by simp <;> omega)).trans (World.cell?_setCell_same _ _ ub ((World.cell?_setCell_other _ _ _ _ (by simp <;> omega)).trans ((World.cell?_setCell_other _ _ _ _ (by simp <;> omega)).trans k2))))
  have m3 : ((((w.setCell ⟨b, j * 4, none⟩ (.int .i64 x.kind)).setCell ⟨b, j * 4 + 1, none⟩ ua).setCell ⟨b, j * 4 + 2, none⟩ ub).setCell ⟨b, j * 4 + 3, none⟩ (.int .i64 x.k)).cell? ⟨b, j * 4 + 3, none⟩ = some (.int .i64 x.k) := (World.cell?_setCell_same _ _ (.int .i64 x.k) ((World.cell?_setCell_other _ _ _ _ (by simp <;> omega)).trans ((World.cell?_setCell_other _ _ _ _ (by simp <;> omega)).trans ((World.cell?_setCell_other _ _ _ _ (by simp <;> omega)).trans k3))))
  refine hu _ [.int .i64 x.kind, ua, ub, .int .i64 x.k] x L' h' (show Shape.Chg b (j * 4) 4 L' L' w _ from ((((Shape.Chg.refl _ _ _ _ _ _).setCell (i := j * 4) (by omega) (by omega) (.int .i64 x.kind)).setCell (i := j * 4 + 1) (by omega) (by omega) ua).setCell (i := j * 4 + 2) (by omega) (by omega) ub).setCell (i := j * 4 + 3) (by omega) (by omega) (.int .i64 x.k)) (fun f c hx => ?_) ⟨ua, ub, L', M1, M1, h', rfl, fkind, fk, Nat.le_refl _, by omega, by omega, Nat.le_refl _, fun _ => .inl (Nat.le_refl _), ta, tb⟩ hs hL hhh
  match f, hx with
  | 0, hx => simp only [List.getElem?_cons_succ, List.getElem?_cons_zero, Option.some.injEq] at hx; subst hx; exact m0
  | 1, hx => simp only [List.getElem?_cons_succ, List.getElem?_cons_zero, Option.some.injEq] at hx; subst hx; exact m1
  | 2, hx => simp only [List.getElem?_cons_succ, List.getElem?_cons_zero, Option.some.injEq] at hx; subst hx; exact m2
  | 3, hx => simp only [List.getElem?_cons_succ, List.getElem?_cons_zero, Option.some.injEq] at hx; subst hx; exact m3

set_option maxRecDepth 100000 in
set_option maxHeartbeats 3200000 in
theorem toHintS_any (o l h v) (xs : List HintC) (w : World) (t : HintS o l h w v xs) (hw : h ≤ w.heap.size) (hlen : xs.length ≤ 1048576) (hel : ∀ x ∈ xs, x.a.length ≤ 1048576 ∧ x.b.length ≤ 1048576) :
  Calls Tryz.prog 41 #[v] w fun e w' => ∃ u, e = .returned u ∧ Below w.heap.size w w' ∧ HintS true w.heap.size w'.heap.size w' u xs := by
 obtain ⟨a, ca, rfl, la, ba⟩ := t.shape
 obtain ⟨i0, hi, hz0, hz1, hz2⟩ := info_parts HintInfo
 have HE := Lib.hid hel
 clear hel
 go_enter Tryz.func41, Tryz.ntmps41
 go_wp2_with (refine wpList_make_full _ rfl _ _ 32 rfl w.heap.size 92 i0 (.agg #[.int .i64 0, .slice none 0 0, .slice none 0 0, .int .i64 0]) 4 Tryz.underlying32 hi hz0 hz1 .i64 .i64 _ _ xs.length rfl rfl rfl rfl (by rw [hz2]; omega) (by unfold maxLen; omega) (Nat.le_refl _) ?_; intro w1 hown hgr)
 have be1 : Below w.heap.size w w1 := (Below.refl _ _).grown hgr (Nat.le_refl _) (fun k e => by simp at e)
 have m1 := HintS.made hown be1.size
 rw [← cp_zero] at m1
 clear hown hgr hi hz0 hz1 hz2
 go_loopw [4] (fun i wr => ∃ k : Nat, k ≤ xs.length ∧ i = .int .i64 k ∧ Below w.heap.size w wr ∧ HintS true w.heap.size wr.heap.size wr (Value.slice (some ⟨w.heap.size, 0, none⟩) xs.length xs.length) (cp ⟨0, [], [], 0⟩ xs k)) (fun i _ => xs.length - (intOf i).toNat)
 case atStart => exact ⟨0, Nat.zero_le _, rfl, be1, m1⟩
 case round =>
  obtain ⟨k, hk, rfl, be, hm⟩ := hrel
  clear be1 m1
  have zb := be.size
  by_cases hlt : k < xs.length
  ·obtain ⟨b, off, va, vb, rfl, l1, m1, c0, c1, c2, c3, fkind, fk, ta, tb⟩ := (t.keep be hw).at hlt
   obtain ⟨xa, kxa, rfl, lxa, bxa⟩ := ta.shape
   obtain ⟨xb, kxb, rfl, lxb, bxb⟩ := tb.shape
   obtain ⟨na, nb⟩ := HE.out _ (List.getElem_mem hlt)
   go_wp2_with fail
   refine (toHint_any o l h _ _ xs[k] _ ta tb (by omega) na nb).mono ?_; rintro e w2 ⟨ua, ub, M1, rfl, f2, g0, g1, ra, rb⟩
   obtain ⟨ya, kya, rfl, lya, bya⟩ := ra.shape
   obtain ⟨yb, kyb, rfl, lyb, byb⟩ := rb.shape
   have be2 := be.trans (f2.mono be.size)
   have z2 := f2.size
   have hm2 := hm.keep f2 (Nat.le_refl _)
   have hcl := cp_length ⟨0, [], [], 0⟩ xs k hk
   obtain ⟨⟨z0', z1', z2', z3', cw0, cw1, cw2, cw3⟩, fw, st⟩ := hm2.fill (j := k) (by omega) z2
   have st2 := st xs[k] _ _ _ _ _ fkind fk ra rb (Nat.le_refl _) g0 g1 z2 (Nat.le_refl _)
   rw [cp_set ⟨0, [], [], 0⟩ xs k hlt] at st2
   have be4 := (((be2.setCell (p := ⟨w.heap.size, k * 4, none⟩) (Nat.le_refl _) (.int .i64 xs[k].kind)).setCell (p := ⟨w.heap.size, k * 4 + 1, none⟩) (Nat.le_refl _) (.slice ya xs[k].a.length kya)).setCell (p := ⟨w.heap.size, k * 4 + 2, none⟩) (Nat.le_refl _) (.slice yb xs[k].b.length kyb)).setCell (p := ⟨w.heap.size, k * 4 + 3, none⟩) (Nat.le_refl _) (.int .i64 xs[k].k)
   clear hm hm2 st ra rb be be2 hcl na nb
   have lg : w.heap.size < w2.heap.size := World.block_lt_of_cell? w2 _ cw0
   go_wp2_with fail
   go_roundw
   case rel => exact ⟨k + 1, by omega, by go_num, be4, by simpa [World.setCell] using st2⟩
   case measure => simp [intOf]; omega
  ·obtain rfl : k = xs.length := by omega
   rw [cp_end] at hm
   go_wp2_with fail
   go_ret
   exact ⟨_, rfl, be, hm⟩

theorem ConInfo : (Tryz.prog.info? 56).map (fun i => (i.zero, i.size, i.bytes)) = some (some (.agg #[.slice none 0 0, .slice none 0 0, .slice none 0 0]), 3, 72) := by kernel_rfl
theorem ConS.made {w : World} {base n : Nat} {v : Value} (hr : w.ownsRow base 56 3 v n (madeCells #[.slice none 0 0, .slice none 0 0, .slice none 0 0] (n * 3)).toList) (hb : base ≤ w.heap.size) : ConS true base w.heap.size w v (List.replicate n ⟨[], [], []⟩) :=
 Shape.row_made (E := conSh) (zs := [.slice none 0 0, .slice none 0 0, .slice none 0 0]) (d := (⟨[], [], []⟩ : ConC)) rfl (fun l h w => ⟨_, _, _, l, min l h, l, min l h, l, min l h, rfl, Nat.le_refl _, Nat.min_le_right _ _, Nat.le_refl _, Nat.min_le_right _ _, Nat.le_refl _, Nat.min_le_right _ _, fun _ => ⟨.inl (Nat.min_le_left _ _), .inl (Nat.min_le_left _ _), .inl (Nat.min_le_left _ _)⟩, Terms.nil _ _ _ _, Terms.nil _ _ _ _, Terms.nil _ _ _ _⟩) hr hb
set_option maxHeartbeats 1600000 in
theorem ConS.fill {l h : Nat} {w : World} {b n cap : Nat} {xs : List ConC} (t : ConS true l h w (.slice (some ⟨b, 0, none⟩) n cap) xs) {j : Nat} (hj : j < xs.length) (hh : h ≤ w.heap.size) :
  (∃ c0 c1 c2, w.cell? ⟨b, j * 3, none⟩ = some c0 ∧ w.cell? ⟨b, j * 3 + 1, none⟩ = some c1 ∧ w.cell? ⟨b, j * 3 + 2, none⟩ = some c2) ∧ (∀ i, w.frozen? ⟨b, i, none⟩ = false) ∧ ∀ (x : ConC) ua ub uc L' M1 M2 h', Terms true L' M1 w ua x.a → Terms true M1 M2 w ub x.b → Terms true M2 h' w uc x.c → h ≤ L' → L' ≤ M1 → M1 ≤ M2 → M2 ≤ h' → h ≤ h' → h' ≤ w.heap.size →
   ConS true l h' (((w.setCell ⟨b, j * 3, none⟩ ua).setCell ⟨b, j * 3 + 1, none⟩ ub).setCell ⟨b, j * 3 + 2, none⟩ uc) (.slice (some ⟨b, 0, none⟩) n cap) (xs.set j x) := by
 obtain ⟨hb, ⟨cs, hl, hc⟩, hf, hu⟩ := Shape.row_fill (E := conSh) t hj hh
 match cs, hl with
 | [c0, c1, c2], _ =>
  have k0 : w.cell? ⟨b, j * 3, none⟩ = some c0 := hc 0 c0 rfl
  have k1 : w.cell? ⟨b, j * 3 + 1, none⟩ = some c1 := hc 1 c1 rfl
  have k2 : w.cell? ⟨b, j * 3 + 2, none⟩ = some c2 := hc 2 c2 rfl
  refine ⟨⟨c0, c1, c2, k0, k1, k2⟩, hf, fun x ua ub uc L' M1 M2 h'  ta tb tc hL g0 g1 g2 hhh hhs => ?_⟩
  have hs : Same L' h' w (((w.setCell ⟨b, j * 3, none⟩ ua).setCell ⟨b, j * 3 + 1, none⟩ ub).setCell ⟨b, j * 3 + 2, none⟩ uc) := Same.set (Same.set (Same.set (Same.refl _ _ _) (by omega)) (by omega)) (by omega)
  have m0 : (((w.setCell ⟨b, j * 3, none⟩ ua).setCell ⟨b, j * 3 + 1, none⟩ ub).setCell ⟨b, j * 3 + 2, none⟩ uc).cell? ⟨b, j * 3, none⟩ = some ua := ((World.cell?_setCell_other _ _ _ _ (by simp <;> omega)).trans ((World.cell?_setCell_other _ _ _ _ (by simp <;> omega)).trans (World.cell?_setCell_same _ _ ua k0)))
  have m1 : (((w.setCell ⟨b, j * 3, none⟩ ua).setCell ⟨b, j * 3 + 1, none⟩ ub).setCell ⟨b, j * 3 + 2, none⟩ uc).cell? ⟨b, j * 3 + 1, none⟩ = some ub := ((World.cell?_setCell_other _ _ _ _ (by simp <;> omega)).trans (World.cell?_setCell_same _ _ ub ((World.cell?_setCell_other _ _ _ _ (by simp <;> omega)).trans k1)))
  have m2 : (((w.setCell ⟨b, j * 3, none⟩ ua).setCell ⟨b, j * 3 + 1, none⟩ ub).setCell ⟨b, j * 3 + 2, none⟩ uc).cell? ⟨b, j * 3 + 2, none⟩ = some uc := (World.cell?_setCell_same _ _ uc ((World.cell?_setCell_other _ _ _ _ (by simp <;> omega)).trans ((World.cell?_setCell_other _ _ _ _ (by simp <;> omega)).trans k2)))
  refine hu _ [ua, ub, uc] x L' h' (show Shape.Chg b (j * 3) 3 L' L' w _ from (((Shape.Chg.refl _ _ _ _ _ _).setCell (i := j * 3) (by omega) (by omega) ua).setCell (i := j * 3 + 1) (by omega) (by omega) ub).setCell (i := j * 3 + 2) (by omega) (by omega) uc) (fun f c hx => ?_) ⟨ua, ub, uc, L', M1, M1, M2, M2, h', rfl, Nat.le_refl _, by omega, by omega, by omega, by omega, Nat.le_refl _, fun _ => ⟨.inl (Nat.le_refl _), .inl (by omega), .inl (Nat.le_refl _)⟩, ta, tb, tc⟩ hs hL hhh
  match f, hx with
  | 0, hx => simp only [List.getElem?_cons_succ, List.getElem?_cons_zero, Option.some.injEq] at hx; subst hx; exact m0
  | 1, hx => simp only [List.getElem?_cons_succ, List.getElem?_cons_zero, Option.some.injEq] at hx; subst hx; exact m1
  | 2, hx => simp only [List.getElem?_cons_succ, List.getElem?_cons_zero, Option.some.injEq] at hx; subst hx; exact m2

set_option maxRecDepth 100000 in
set_option maxHeartbeats 3200000 in
theorem toConS_any (o l h v) (xs : List ConC) (w : World) (t : ConS o l h w v xs) (hw : h ≤ w.heap.size) (hlen : xs.length ≤ 1048576) (hel : ∀ x ∈ xs, x.a.length ≤ 1048576 ∧ x.b.length ≤ 1048576 ∧ x.c.length ≤ 1048576) :
  Calls Tryz.prog 42 #[v] w fun e w' => ∃ u, e = .returned u ∧ Below w.heap.size w w' ∧ ConS true w.heap.size w'.heap.size w' u xs := by
 obtain ⟨a, ca, rfl, la, ba⟩ := t.shape
 obtain ⟨i0, hi, hz0, hz1, hz2⟩ := info_parts ConInfo
 have HE := Lib.hid hel
 clear hel
 go_enter Tryz.func42, Tryz.ntmps42
 go_wp2_with (refine wpList_make_full _ rfl _ _ 33 rfl w.heap.size 56 i0 (.agg #[.slice none 0 0, .slice none 0 0, .slice none 0 0]) 3 Tryz.underlying33 hi hz0 hz1 .i64 .i64 _ _ xs.length rfl rfl rfl rfl (by rw [hz2]; omega) (by unfold maxLen; omega) (Nat.le_refl _) ?_; intro w1 hown hgr)
 have be1 : Below w.heap.size w w1 := (Below.refl _ _).grown hgr (Nat.le_refl _) (fun k e => by simp at e)
 have m1 := ConS.made hown be1.size
 rw [← cp_zero] at m1
 clear hown hgr hi hz0 hz1 hz2
 go_loopw [4] (fun i wr => ∃ k : Nat, k ≤ xs.length ∧ i = .int .i64 k ∧ Below w.heap.size w wr ∧ ConS true w.heap.size wr.heap.size wr (Value.slice (some ⟨w.heap.size, 0, none⟩) xs.length xs.length) (cp ⟨[], [], []⟩ xs k)) (fun i _ => xs.length - (intOf i).toNat)
 case atStart => exact ⟨0, Nat.zero_le _, rfl, be1, m1⟩
 case round =>
  obtain ⟨k, hk, rfl, be, hm⟩ := hrel
  clear be1 m1
  have zb := be.size
  by_cases hlt : k < xs.length
  ·obtain ⟨b, off, va, vb, vc, rfl, l1, m1, c0, c1, c2, ta, tb, tc⟩ := (t.keep be hw).at hlt
   obtain ⟨xa, kxa, rfl, lxa, bxa⟩ := ta.shape
   obtain ⟨xb, kxb, rfl, lxb, bxb⟩ := tb.shape
   obtain ⟨xc, kxc, rfl, lxc, bxc⟩ := tc.shape
   obtain ⟨na, nb, nc⟩ := HE.out _ (List.getElem_mem hlt)
   go_wp2_with fail
   refine (toCon_any o l h _ _ _ xs[k] _ ta tb tc (by omega) na nb nc).mono ?_; rintro e w2 ⟨ua, ub, uc, M1, M2, rfl, f2, g0, g1, g2, ra, rb, rc⟩
   obtain ⟨ya, kya, rfl, lya, bya⟩ := ra.shape
   obtain ⟨yb, kyb, rfl, lyb, byb⟩ := rb.shape
   obtain ⟨yc, kyc, rfl, lyc, byc⟩ := rc.shape
   have be2 := be.trans (f2.mono be.size)
   have z2 := f2.size
   have hm2 := hm.keep f2 (Nat.le_refl _)
   have hcl := cp_length ⟨[], [], []⟩ xs k hk
   obtain ⟨⟨z0', z1', z2', cw0, cw1, cw2⟩, fw, st⟩ := hm2.fill (j := k) (by omega) z2
   have st2 := st xs[k] _ _ _ _ _ _ _ ra rb rc (Nat.le_refl _) g0 g1 g2 z2 (Nat.le_refl _)
   rw [cp_set ⟨[], [], []⟩ xs k hlt] at st2
   have be4 := ((be2.setCell (p := ⟨w.heap.size, k * 3, none⟩) (Nat.le_refl _) (.slice ya xs[k].a.length kya)).setCell (p := ⟨w.heap.size, k * 3 + 1, none⟩) (Nat.le_refl _) (.slice yb xs[k].b.length kyb)).setCell (p := ⟨w.heap.size, k * 3 + 2, none⟩) (Nat.le_refl _) (.slice yc xs[k].c.length kyc)
   clear hm hm2 st ra rb rc be be2 hcl na nb nc
   have lg : w.heap.size < w2.heap.size := World.block_lt_of_cell? w2 _ cw0
   go_wp2_with fail
   go_roundw
   case rel => exact ⟨k + 1, by omega, by go_num, be4, by simpa [World.setCell] using st2⟩
   case measure => simp [intOf]; omega
  ·obtain rfl : k = xs.length := by omega
   rw [cp_end] at hm
   go_wp2_with fail
   go_ret
   exact ⟨_, rfl, be, hm⟩
end Go.Proofs.YthipgpbapdambaaGreat.L

/- Copies of systems. -/
namespace Go.Proofs.YthipgpbapdambaaGreat.L
open Go.RowKit Go.Proofs.YthipgpbapdambaaGreat.S
set_option linter.unusedVariables false
set_option linter.unusedSimpArgs false

theorem mem_tot {α : Type} {f : α → Nat} {xs : List α} {x : α} (h : x ∈ xs) : f x ≤ tot f xs := by
 unfold tot
 induction xs with
 | nil => cases h
 | cons y ys ih =>
  rw [List.map_cons, List.sum_cons]
  rcases List.mem_cons.1 h with rfl | h
  ·omega
  ·have := ih h; omega

set_option maxRecDepth 100000 in
set_option maxHeartbeats 3200000 in
theorem toSys0_any (o l h vouts vhints vcons) (x : SysC) (w : World) (touts : LinS o l h w vouts x.outs) (thints : HintS o l h w vhints x.hints) (tcons : ConS o l h w vcons x.cons) (hw : h ≤ w.heap.size) (hn : szS x ≤ 1048576) :
  Calls Tryz.prog 9 #[.agg #[.int .i64 x.ins, vouts, vhints, vcons]] w fun e w' => ∃ uouts uhints ucons M1 M2, e = .returned (.agg #[.int .i64 x.ins, uouts, uhints, ucons]) ∧ Below w.heap.size w w' ∧ w.heap.size ≤ M1 ∧ M1 ≤ M2 ∧ M2 ≤ w'.heap.size ∧ LinS true w.heap.size M1 w' uouts x.outs ∧ HintS true M1 M2 w' uhints x.hints ∧ ConS true M2 w'.heap.size w' ucons x.cons := by
 obtain ⟨aouts, kouts, rfl, laouts, baouts⟩ := touts.shape
 obtain ⟨ahints, khints, rfl, lahints, bahints⟩ := thints.shape
 obtain ⟨acons, kcons, rfl, lacons, bacons⟩ := tcons.shape
 have nouts : x.outs.length ≤ 1048576 := by unfold szS szLs at hn; omega
 have nhints : x.hints.length ≤ 1048576 := by unfold szS szHs at hn; omega
 have ncons : x.cons.length ≤ 1048576 := by unfold szS szCs at hn; omega
 have eouts' : ∀ t ∈ x.outs, t.length ≤ 1048576 := fun t ht => by have := mem_tot (f := List.length) ht; unfold szS szLs at hn; omega
 have ehints' : ∀ t ∈ x.hints, t.a.length ≤ 1048576 ∧ t.b.length ≤ 1048576 := fun t ht => by have := mem_tot (f := szH) ht; unfold szS szHs at hn; have e : szH t = t.a.length + t.b.length := rfl; omega
 have econs' : ∀ t ∈ x.cons, t.a.length ≤ 1048576 ∧ t.b.length ≤ 1048576 ∧ t.c.length ≤ 1048576 := fun t ht => by have := mem_tot (f := szC) ht; unfold szS szCs at hn; have e : szC t = t.a.length + t.b.length + t.c.length := rfl; omega
 have EO := Lib.hid eouts'
 have EH := Lib.hid ehints'
 have EC := Lib.hid econs'
 clear eouts' ehints' econs'
 go_enter Tryz.func9, Tryz.ntmps9
 go_wp2_with fail
 refine name_call fun W0 hW0 => ?_
 have B0 : Below w.heap.size w W0 := by rw [hW0]; (repeat (with_reducible first | exact bR _ _ | assumption | refine bD ?_ | refine bN ?_ _ | refine bA ?_ _ | refine bS ?_ _))
 have Z0 : W0.heap.size = w.heap.size + 3 := by rw [hW0]; simp
 have p00 : W0.cell? ⟨w.heap.size, 0, none⟩ = some (.int .i64 x.ins) := by rw [hW0]; go_simp
 have p01 : W0.cell? ⟨w.heap.size, 1, none⟩ = some (.slice aouts x.outs.length kouts) := by rw [hW0]; go_simp
 have p02 : W0.cell? ⟨w.heap.size, 2, none⟩ = some (.slice ahints x.hints.length khints) := by rw [hW0]; go_simp
 have p03 : W0.cell? ⟨w.heap.size, 3, none⟩ = some (.slice acons x.cons.length kcons) := by rw [hW0]; go_simp
 have q00 : W0.cell? ⟨w.heap.size + 1 + 1, 0, none⟩ = some (.int .i64 x.ins) := by rw [hW0]; go_simp
 have r00 : W0.cell? ⟨w.heap.size + 1, 0, none⟩ = some (.int .i64 0) := by rw [hW0]; go_simp
 have q01 : W0.cell? ⟨w.heap.size + 1 + 1, 1, none⟩ = some (.slice none 0 0) := by rw [hW0]; go_simp
 have r01 : W0.cell? ⟨w.heap.size + 1, 1, none⟩ = some (.slice none 0 0) := by rw [hW0]; go_simp
 have q02 : W0.cell? ⟨w.heap.size + 1 + 1, 2, none⟩ = some (.slice none 0 0) := by rw [hW0]; go_simp
 have r02 : W0.cell? ⟨w.heap.size + 1, 2, none⟩ = some (.slice none 0 0) := by rw [hW0]; go_simp
 have q03 : W0.cell? ⟨w.heap.size + 1 + 1, 3, none⟩ = some (.slice none 0 0) := by rw [hW0]; go_simp
 have r03 : W0.cell? ⟨w.heap.size + 1, 3, none⟩ = some (.slice none 0 0) := by rw [hW0]; go_simp
 have F0 : ∀ i, W0.frozen? ⟨w.heap.size + 1 + 1, i, none⟩ = false := by intro i; rw [hW0]; go_simp
 have G0 : ∀ i, W0.frozen? ⟨w.heap.size + 1, i, none⟩ = false := by intro i; rw [hW0]; go_simp
 have s0outs := touts.keep B0 hw
 have s0hints := thints.keep B0 hw
 have s0cons := tcons.keep B0 hw
 clear hW0
 refine (toLinS_any o l h _ x.outs _ s0outs (by omega) nouts EO.out).mono ?_; rintro e w0 ⟨z0, rfl, f0, yy0outs⟩
 obtain ⟨couts, mouts, rfl, lcouts, bcouts⟩ := yy0outs.shape
 have bb0 := B0.trans (f0.mono (by omega))
 have zz0 := f0.size
 have pp00 := cell_keep f0 p00
 have qq00 := cell_keep f0 q00
 have rr00 := cell_keep f0 r00
 have pp01 := cell_keep f0 p01
 have qq01 := cell_keep f0 q01
 have rr01 := cell_keep f0 r01
 have pp02 := cell_keep f0 p02
 have qq02 := cell_keep f0 q02
 have rr02 := cell_keep f0 r02
 have pp03 := cell_keep f0 p03
 have qq03 := cell_keep f0 q03
 have rr03 := cell_keep f0 r03
 have FF0 : ∀ i, w0.frozen? ⟨w.heap.size + 1 + 1, i, none⟩ = false := fun j => (f0.frozen (p := ⟨w.heap.size + 1 + 1, j, none⟩) (show w.heap.size + 1 + 1 < W0.heap.size by omega)).trans (F0 j)
 have GG0 : ∀ i, w0.frozen? ⟨w.heap.size + 1, i, none⟩ = false := fun j => (f0.frozen (p := ⟨w.heap.size + 1, j, none⟩) (show w.heap.size + 1 < W0.heap.size by omega)).trans (G0 j)
 clear p00 q00 r00 p01 q01 r01 p02 q02 r02 p03 q03 r03 F0 G0 s0outs s0hints s0cons 
 have lt0 : w.heap.size + 1 + 1 < w0.heap.size := by omega
 have lu0 : w.heap.size + 1 < w0.heap.size := by omega
 have lv0 : w.heap.size < w0.heap.size := by omega
 go_wp2_with fail
 clear lt0 lu0 lv0
 refine name_call fun W1 hW1 => ?_
 have B1 : Below w.heap.size w W1 := by rw [hW1]; exact Below.setCell bb0 (by simp; omega) _
 have Z1 : W1.heap.size = w0.heap.size := by rw [hW1]; simp [World.setCell]
 have p10 := (show W1.cell? ⟨w.heap.size, 0, none⟩ = w0.cell? ⟨w.heap.size, 0, none⟩ by rw [hW1]; exact World.cell?_setCell_other _ _ _ _ (by simp)).trans pp00
 have r10 := (show W1.cell? ⟨w.heap.size + 1, 0, none⟩ = w0.cell? ⟨w.heap.size + 1, 0, none⟩ by rw [hW1]; exact World.cell?_setCell_other _ _ _ _ (by simp)).trans rr00
 have q10 := (show W1.cell? ⟨w.heap.size + 1 + 1, 0, none⟩ = w0.cell? ⟨w.heap.size + 1 + 1, 0, none⟩ by rw [hW1]; exact World.cell?_setCell_other _ _ _ _ (by simp)).trans qq00
 have p11 := (show W1.cell? ⟨w.heap.size, 1, none⟩ = w0.cell? ⟨w.heap.size, 1, none⟩ by rw [hW1]; exact World.cell?_setCell_other _ _ _ _ (by simp)).trans pp01
 have r11 := (show W1.cell? ⟨w.heap.size + 1, 1, none⟩ = w0.cell? ⟨w.heap.size + 1, 1, none⟩ by rw [hW1]; exact World.cell?_setCell_other _ _ _ _ (by simp)).trans rr01
 have q11 : W1.cell? ⟨w.heap.size + 1 + 1, 1, none⟩ = some (.slice couts x.outs.length mouts) := by rw [hW1]; exact World.cell?_setCell_same _ _ _ qq01
 have p12 := (show W1.cell? ⟨w.heap.size, 2, none⟩ = w0.cell? ⟨w.heap.size, 2, none⟩ by rw [hW1]; exact World.cell?_setCell_other _ _ _ _ (by simp)).trans pp02
 have r12 := (show W1.cell? ⟨w.heap.size + 1, 2, none⟩ = w0.cell? ⟨w.heap.size + 1, 2, none⟩ by rw [hW1]; exact World.cell?_setCell_other _ _ _ _ (by simp)).trans rr02
 have q12 := (show W1.cell? ⟨w.heap.size + 1 + 1, 2, none⟩ = w0.cell? ⟨w.heap.size + 1 + 1, 2, none⟩ by rw [hW1]; exact World.cell?_setCell_other _ _ _ _ (by simp)).trans qq02
 have p13 := (show W1.cell? ⟨w.heap.size, 3, none⟩ = w0.cell? ⟨w.heap.size, 3, none⟩ by rw [hW1]; exact World.cell?_setCell_other _ _ _ _ (by simp)).trans pp03
 have r13 := (show W1.cell? ⟨w.heap.size + 1, 3, none⟩ = w0.cell? ⟨w.heap.size + 1, 3, none⟩ by rw [hW1]; exact World.cell?_setCell_other _ _ _ _ (by simp)).trans rr03
 have q13 := (show W1.cell? ⟨w.heap.size + 1 + 1, 3, none⟩ = w0.cell? ⟨w.heap.size + 1 + 1, 3, none⟩ by rw [hW1]; exact World.cell?_setCell_other _ _ _ _ (by simp)).trans qq03
 have F1 : ∀ i, W1.frozen? ⟨w.heap.size + 1 + 1, i, none⟩ = false := by intro i; rw [hW1, World.frozen?_setCell]; exact FF0 i
 have G1 : ∀ i, W1.frozen? ⟨w.heap.size + 1, i, none⟩ = false := by intro i; rw [hW1, World.frozen?_setCell]; exact GG0 i
 have s1hints := thints.keep B1 hw
 have s1cons := tcons.keep B1 hw
 have y1outs := yy0outs.agree (show Same _ _ w0 W1 by rw [hW1]; exact same_set (by omega))
 clear hW1 pp00 qq00 rr00 pp01 qq01 rr01 pp02 qq02 rr02 pp03 qq03 rr03 FF0 GG0 yy0outs
 refine (toHintS_any o l h _ x.hints _ s1hints (by omega) nhints EH.out).mono ?_; rintro e w1 ⟨z1, rfl, f1, yy1hints⟩
 obtain ⟨chints, mhints, rfl, lchints, bchints⟩ := yy1hints.shape
 have bb1 := B1.trans (f1.mono (by omega))
 have zz1 := f1.size
 have pp10 := cell_keep f1 p10
 have qq10 := cell_keep f1 q10
 have rr10 := cell_keep f1 r10
 have pp11 := cell_keep f1 p11
 have qq11 := cell_keep f1 q11
 have rr11 := cell_keep f1 r11
 have pp12 := cell_keep f1 p12
 have qq12 := cell_keep f1 q12
 have rr12 := cell_keep f1 r12
 have pp13 := cell_keep f1 p13
 have qq13 := cell_keep f1 q13
 have rr13 := cell_keep f1 r13
 have FF1 : ∀ i, w1.frozen? ⟨w.heap.size + 1 + 1, i, none⟩ = false := fun j => (f1.frozen (p := ⟨w.heap.size + 1 + 1, j, none⟩) (show w.heap.size + 1 + 1 < W1.heap.size by omega)).trans (F1 j)
 have GG1 : ∀ i, w1.frozen? ⟨w.heap.size + 1, i, none⟩ = false := fun j => (f1.frozen (p := ⟨w.heap.size + 1, j, none⟩) (show w.heap.size + 1 < W1.heap.size by omega)).trans (G1 j)
 have yy1outs := y1outs.keep f1 (by omega)
 clear p10 q10 r10 p11 q11 r11 p12 q12 r12 p13 q13 r13 F1 G1 s1hints s1cons y1outs
 have lt1 : w.heap.size + 1 + 1 < w1.heap.size := by omega
 have lu1 : w.heap.size + 1 < w1.heap.size := by omega
 have lv1 : w.heap.size < w1.heap.size := by omega
 go_wp2_with fail
 clear lt1 lu1 lv1
 refine name_call fun W2 hW2 => ?_
 have B2 : Below w.heap.size w W2 := by rw [hW2]; exact Below.setCell bb1 (by simp; omega) _
 have Z2 : W2.heap.size = w1.heap.size := by rw [hW2]; simp [World.setCell]
 have p20 := (show W2.cell? ⟨w.heap.size, 0, none⟩ = w1.cell? ⟨w.heap.size, 0, none⟩ by rw [hW2]; exact World.cell?_setCell_other _ _ _ _ (by simp)).trans pp10
 have r20 := (show W2.cell? ⟨w.heap.size + 1, 0, none⟩ = w1.cell? ⟨w.heap.size + 1, 0, none⟩ by rw [hW2]; exact World.cell?_setCell_other _ _ _ _ (by simp)).trans rr10
 have q20 := (show W2.cell? ⟨w.heap.size + 1 + 1, 0, none⟩ = w1.cell? ⟨w.heap.size + 1 + 1, 0, none⟩ by rw [hW2]; exact World.cell?_setCell_other _ _ _ _ (by simp)).trans qq10
 have p21 := (show W2.cell? ⟨w.heap.size, 1, none⟩ = w1.cell? ⟨w.heap.size, 1, none⟩ by rw [hW2]; exact World.cell?_setCell_other _ _ _ _ (by simp)).trans pp11
 have r21 := (show W2.cell? ⟨w.heap.size + 1, 1, none⟩ = w1.cell? ⟨w.heap.size + 1, 1, none⟩ by rw [hW2]; exact World.cell?_setCell_other _ _ _ _ (by simp)).trans rr11
 have q21 := (show W2.cell? ⟨w.heap.size + 1 + 1, 1, none⟩ = w1.cell? ⟨w.heap.size + 1 + 1, 1, none⟩ by rw [hW2]; exact World.cell?_setCell_other _ _ _ _ (by simp)).trans qq11
 have p22 := (show W2.cell? ⟨w.heap.size, 2, none⟩ = w1.cell? ⟨w.heap.size, 2, none⟩ by rw [hW2]; exact World.cell?_setCell_other _ _ _ _ (by simp)).trans pp12
 have r22 := (show W2.cell? ⟨w.heap.size + 1, 2, none⟩ = w1.cell? ⟨w.heap.size + 1, 2, none⟩ by rw [hW2]; exact World.cell?_setCell_other _ _ _ _ (by simp)).trans rr12
 have q22 : W2.cell? ⟨w.heap.size + 1 + 1, 2, none⟩ = some (.slice chints x.hints.length mhints) := by rw [hW2]; exact World.cell?_setCell_same _ _ _ qq12
 have p23 := (show W2.cell? ⟨w.heap.size, 3, none⟩ = w1.cell? ⟨w.heap.size, 3, none⟩ by rw [hW2]; exact World.cell?_setCell_other _ _ _ _ (by simp)).trans pp13
 have r23 := (show W2.cell? ⟨w.heap.size + 1, 3, none⟩ = w1.cell? ⟨w.heap.size + 1, 3, none⟩ by rw [hW2]; exact World.cell?_setCell_other _ _ _ _ (by simp)).trans rr13
 have q23 := (show W2.cell? ⟨w.heap.size + 1 + 1, 3, none⟩ = w1.cell? ⟨w.heap.size + 1 + 1, 3, none⟩ by rw [hW2]; exact World.cell?_setCell_other _ _ _ _ (by simp)).trans qq13
 have F2 : ∀ i, W2.frozen? ⟨w.heap.size + 1 + 1, i, none⟩ = false := by intro i; rw [hW2, World.frozen?_setCell]; exact FF1 i
 have G2 : ∀ i, W2.frozen? ⟨w.heap.size + 1, i, none⟩ = false := by intro i; rw [hW2, World.frozen?_setCell]; exact GG1 i
 have s2cons := tcons.keep B2 hw
 have y2outs := yy1outs.agree (show Same _ _ w1 W2 by rw [hW2]; exact same_set (by omega))
 have y2hints := yy1hints.agree (show Same _ _ w1 W2 by rw [hW2]; exact same_set (by omega))
 clear hW2 pp10 qq10 rr10 pp11 qq11 rr11 pp12 qq12 rr12 pp13 qq13 rr13 FF1 GG1 yy1outs yy1hints
 refine (toConS_any o l h _ x.cons _ s2cons (by omega) ncons EC.out).mono ?_; rintro e w2 ⟨z2, rfl, f2, yy2cons⟩
 obtain ⟨ccons, mcons, rfl, lccons, bccons⟩ := yy2cons.shape
 have bb2 := B2.trans (f2.mono (by omega))
 have zz2 := f2.size
 have pp20 := cell_keep f2 p20
 have qq20 := cell_keep f2 q20
 have rr20 := cell_keep f2 r20
 have pp21 := cell_keep f2 p21
 have qq21 := cell_keep f2 q21
 have rr21 := cell_keep f2 r21
 have pp22 := cell_keep f2 p22
 have qq22 := cell_keep f2 q22
 have rr22 := cell_keep f2 r22
 have pp23 := cell_keep f2 p23
 have qq23 := cell_keep f2 q23
 have rr23 := cell_keep f2 r23
 have FF2 : ∀ i, w2.frozen? ⟨w.heap.size + 1 + 1, i, none⟩ = false := fun j => (f2.frozen (p := ⟨w.heap.size + 1 + 1, j, none⟩) (show w.heap.size + 1 + 1 < W2.heap.size by omega)).trans (F2 j)
 have GG2 : ∀ i, w2.frozen? ⟨w.heap.size + 1, i, none⟩ = false := fun j => (f2.frozen (p := ⟨w.heap.size + 1, j, none⟩) (show w.heap.size + 1 < W2.heap.size by omega)).trans (G2 j)
 have yy2outs := y2outs.keep f2 (by omega)
 have yy2hints := y2hints.keep f2 (by omega)
 clear p20 q20 r20 p21 q21 r21 p22 q22 r22 p23 q23 r23 F2 G2 s2cons y2outs y2hints
 have lt2 : w.heap.size + 1 + 1 < w2.heap.size := by omega
 have lu2 : w.heap.size + 1 < w2.heap.size := by omega
 have lv2 : w.heap.size < w2.heap.size := by omega
 go_wp2_with fail
 refine bodyPost_ret (v := .agg #[.int .i64 x.ins, .slice couts x.outs.length mouts, .slice chints x.hints.length mhints, .slice ccons x.cons.length mcons]) (by simp [results, Tryz.results9, go_sem, qq20, rr20, qq21, rr21, qq22, rr22, qq23, rr23]) rfl ⟨_, _, _, w0.heap.size, w1.heap.size, rfl, ?_, by (try simp only [World.setCell]); (try simp); omega, by (try simp only [World.setCell]); (try simp); omega, by (try simp only [World.setCell]); (try simp); omega, ?_, ?_, ?_⟩
 ·(repeat (with_reducible first | exact bR _ _ | assumption | refine bD ?_ | refine bN ?_ _ | refine bA ?_ _ | refine bS ?_ _))
 ·exact (yy2outs.agree (by (repeat (first | with_reducible exact Same.refl _ _ _ | with_reducible refine Same.set ?_ (by omega))))).mono (by omega) (by first | omega | simp [World.setCell])
 ·exact (yy2hints.agree (by (repeat (first | with_reducible exact Same.refl _ _ _ | with_reducible refine Same.set ?_ (by omega))))).mono (by omega) (by first | omega | simp [World.setCell])
 ·exact (yy2cons.agree (by (repeat (first | with_reducible exact Same.refl _ _ _ | with_reducible refine Same.set ?_ (by omega))))).mono (by omega) (by first | omega | simp [World.setCell])

theorem toSys_any (o l h vi vo vh vc) (x : SysC) (w : World) (t : SysR o l h w vi vo vh vc x) (hw : h ≤ w.heap.size) (hn : szS x ≤ 1048576) :
  Calls Tryz.prog 9 #[.agg #[vi, vo, vh, vc]] w fun e w' => ∃ uo uh uc, e = .returned (.agg #[.int .i64 x.ins, uo, uh, uc]) ∧ Below w.heap.size w w' ∧ SysR true w.heap.size w'.heap.size w' (.int .i64 x.ins) uo uh uc x := by
 obtain ⟨a1, a2, a3⟩ := t.parts
 have f := t.2.1
 rw [t.1]
 refine (toSys0_any o l h vo vh vc x w a1 a2 a3 hw hn).mono ?_
 rintro e w' ⟨uo, uh, uc, M1, M2, he, hb, g0, g1, g2, r1, r2, r3⟩
 exact ⟨uo, uh, uc, he, hb, rfl, f, _, _, _, _, _, _, Nat.le_refl _, by omega, by omega, by omega, by omega, Nat.le_refl _, fun _ => ⟨.inl (Nat.le_refl _), .inl (by omega), .inl (Nat.le_refl _)⟩, r1, r2, r3⟩
end Go.Proofs.YthipgpbapdambaaGreat.L

/- Marks of slices of combinations, hints, constraints, and of systems. -/
namespace Go.Proofs.YthipgpbapdambaaGreat.L
open Go.RowKit Go.Proofs.YthipgpbapdambaaGreat.S
set_option linter.unusedVariables false
set_option linter.unusedSimpArgs false

/-- What marking leaves of a list: each element is marked on from where the one before it ended. -/
def mkA {α : Type} (g : Nat → α → α) (f : α → Nat) : Nat → List α → List α
 | _, [] => []
 | m, x :: r => g m x :: mkA g f (m + f x) r
theorem mkA_length {α : Type} (g : Nat → α → α) (f : α → Nat) (l : List α) : ∀ m, (mkA g f m l).length = l.length := by
 induction l with
 | nil => intro m; rfl
 | cons x r ih => intro m; simp [mkA, ih]
theorem mkA_snoc {α : Type} (g : Nat → α → α) (f : α → Nat) (l : List α) (x : α) : ∀ m, mkA g f m (l ++ [x]) = mkA g f m l ++ [g (m + tot f l) x] := by
 induction l with
 | nil => intro m; simp [mkA, tot]
 | cons y r ih => intro m; rw [List.cons_append, mkA, mkA, ih, show m + f y + tot f r = m + tot f (y :: r) from by simp [tot]; omega]; rfl
theorem mkA_at {α : Type} (g : Nat → α → α) (f : α → Nat) (l : List α) : ∀ m k (h : k < l.length), (mkA g f m l)[k]? = some (g (m + tot f (l.take k)) l[k]) := by
 induction l with
 | nil => intro m k h; simp at h
 | cons y r ih =>
  intro m k h
  cases k with
  | zero => simp [mkA, tot]
  | succ k =>
   simp only [mkA, List.getElem?_cons_succ]
   rw [ih (m + f y) k (by simpa using h), List.take_succ_cons, show m + f y + tot f (r.take k) = m + tot f (y :: r.take k) from by simp [tot]; omega]
   rfl
/-- Behind k rounds of marking. -/
def mix {α : Type} (g : Nat → α → α) (f : α → Nat) (m : Nat) (xs : List α) (k : Nat) : List α := mkA g f m (xs.take k) ++ xs.drop k
theorem mix_length {α : Type} {g : Nat → α → α} {f : α → Nat} {m : Nat} {xs : List α} {k : Nat} (h : k ≤ xs.length) : (mix g f m xs k).length = xs.length := by
 unfold mix; simp [mkA_length]; omega
theorem mix_at {α : Type} {g : Nat → α → α} {f : α → Nat} {m : Nat} {xs : List α} {k : Nat} (h : k < xs.length) (h' : k < (mix g f m xs k).length) : (mix g f m xs k)[k] = xs[k] := by
 have e : (mix g f m xs k)[k]? = some xs[k] := by
  unfold mix
  have hl : (mkA g f m (xs.take k)).length = k := by rw [mkA_length]; simp; omega
  rw [List.getElem?_append_right (by omega), hl, Nat.sub_self, List.drop_eq_getElem_cons h]; rfl
 rw [List.getElem?_eq_getElem h'] at e
 exact Option.some.inj e
theorem mix_set {α : Type} {g : Nat → α → α} {f : α → Nat} {m : Nat} {xs : List α} {k : Nat} (h : k < xs.length) : (mix g f m xs k).set k (g (m + tot f (xs.take k)) xs[k]) = mix g f m xs (k + 1) := by
 unfold mix
 have hl : (mkA g f m (xs.take k)).length = k := by rw [mkA_length]; simp; omega
 rw [List.set_append_right _ _ (by omega), hl, Nat.sub_self, List.drop_eq_getElem_cons h, List.set_cons_zero, take_step (List.getElem?_eq_getElem h), mkA_snoc, List.append_assoc]
 rfl
theorem mix_zero {α : Type} {g : Nat → α → α} {f : α → Nat} {m : Nat} {xs : List α} : mix g f m xs 0 = xs := rfl
theorem mix_end {α : Type} {g : Nat → α → α} {f : α → Nat} {m : Nat} {xs : List α} : mix g f m xs xs.length = mkA g f m xs := by simp [mix]

def fL (t : List T) : Nat := 2 * t.length
def gL (m : Nat) (t : List T) : List T := marks m t.length
def fH (x : HintC) : Nat := 2 + 2 * x.a.length + 2 * x.b.length
def gH (m : Nat) (x : HintC) : HintC := ⟨m, marks (m + 1) x.a.length, marks (m + 1 + 2 * x.a.length) x.b.length, (m + 1 + 2 * x.a.length + 2 * x.b.length : Nat)⟩
def fC (x : ConC) : Nat := 2 * x.a.length + 2 * x.b.length + 2 * x.c.length
def gC (m : Nat) (x : ConC) : ConC := ⟨marks m x.a.length, marks (m + 2 * x.a.length) x.b.length, marks (m + 2 * x.a.length + 2 * x.b.length) x.c.length⟩

theorem markTermS_int (l h : Nat) (v : Value) (ts : List T) (n : Int) (w : World) (h1 : Terms true l h w v ts) (hw : h ≤ w.heap.size) (hlen : ts.length ≤ 4194304) (n0 : 0 ≤ n) (n1 : n ≤ 16777216) :
  Calls Tryz.prog 94 #[v, .int .i64 n] w fun e w' => e = .returned (.int .i64 (n + 2 * (ts.length : Int))) ∧ Only l h w w' ∧ Terms true l h w' v (marks n.toNat ts.length) := by
 have := markTermS_any l h v ts n.toNat w h1 hw hlen (by omega)
 rw [show ((n.toNat : Nat) : Int) = n from by omega, show ((n.toNat + 2 * ts.length : Nat) : Int) = n + 2 * (ts.length : Int) from by omega] at this
 exact this
theorem same_set2 {l h b o : Nat} {w : World} {u : Value} (hb : b < l ∨ h ≤ b) : Same l h w (w.setCell ⟨b, o, none⟩ u) := fun k h1 h2 => Below.heap_setCell _ _ _ _ (by simp; omega)

set_option maxRecDepth 100000 in
set_option maxHeartbeats 1600000 in
theorem markLinS_any (l h v) (xs : List (List T)) (m : Nat) (w : World) (t : LinS true l h w v xs) (hw : h ≤ w.heap.size) (hm : m + tot fL xs ≤ 8388608) :
  Calls Tryz.prog 50 #[v, .int .i64 m] w fun e w' => e = .returned (.int .i64 ((m + tot fL xs : Nat) : Int)) ∧ Only l h w w' ∧ LinS true l h w' v (mkA gL fL m xs) := by
 obtain ⟨a, ka, rfl, la, ba⟩ := t.shape
 go_enter Tryz.func50, Tryz.ntmps50
 go_wp2_with fail
 go_loopw [1, 5] (fun n i wr => ∃ (k : Nat) (q : Int), k ≤ xs.length ∧ i = .int .i64 k ∧ n = .int .i64 q ∧ q = ((m + tot fL (xs.take k) : Nat) : Int) ∧ Only l h w wr ∧ LinS true l h wr (.slice a xs.length ka) (mix gL fL m xs k)) (fun _ i _ => xs.length - (intOf i).toNat)
 case atStart => exact ⟨0, m, Nat.zero_le _, rfl, rfl, by simp [tot], Only.refl _ _ _, t⟩
 case round =>
  obtain ⟨k, q, hk, rfl, rfl, hq, on, ht⟩ := hrel
  have HQ := Lib.hid hq
  have zs := on.size
  have hle := tot_le fL xs (k + 1)
  clear hq t
  by_cases hlt : k < xs.length
  ·have hst := tot_step (f := fL) hlt
   have hlen : (mix gL fL m xs k).length = xs.length := mix_length hk
   obtain ⟨b, off, cs, L, H, rfl, p1, p2, p3, p4, hc, ⟨u, rfl, tu⟩, ho⟩ := Shape.row_focus (E := Shape.lin) ht (j := k) (by omega)
   obtain ⟨d1, d2, d3⟩ := ho rfl
   rw [mix_at hlt] at tu
   have c0 : wr.cell? ⟨b, off + k, none⟩ = some u := by have := hc 0 u rfl; rwa [show Shape.lin.wd = 1 from rfl, Nat.mul_one, Nat.add_zero] at this
   obtain ⟨x, kx, rfl, lx, bx⟩ := tu.shape
   have bl : b < wr.heap.size := World.block_lt_of_cell? _ _ c0
   have q0 : 0 ≤ q := by have := HQ.out; omega
   have e2 : fL xs[k] = 2 * xs[k].length := rfl
   have q1 : q + 2 * (xs[k].length : Int) ≤ 8388608 := by have := HQ.out; omega
   have SET : Hid ((mix gL fL m xs k).set k (marks q.toNat xs[k].length) = mix gL fL m xs (k + 1)) := Lib.hid (by rw [← mix_set hlt]; have := HQ.out; rw [show q.toNat = m + tot fL (xs.take k) from by omega]; rfl)
   have Q2 : Hid (q + 2 * (xs[k].length : Int) = ((m + tot fL (xs.take (k + 1)) : Nat) : Int)) := Lib.hid (by have := HQ.out; omega)
   clear hst hle hlen e2 ht ho
   go_wp2_with fail
   refine (markTermS_int L H _ xs[k] q _ tu (by omega) (by omega) q0 (by omega)).mono ?_; rintro e w2 ⟨rfl, on2, tr⟩
   have up := d3 w2 [.slice x xs[k].length kx] _ L H h ((Shape.Chg.refl _ _ _ _ _ _).only on2 (Nat.le_refl _) (Nat.le_refl _) d1 bl) (fun f c hf => by rw [on2.cell bl d1]; exact hc f c hf) ⟨_, rfl, tr⟩ (by omega) (Nat.le_refl _) (.inl ⟨Nat.le_refl _, Nat.le_refl _⟩)
   rw [SET.out] at up
   have on3 : Only l h w w2 := on.trans (on2.wide p3 p4)
   clear d3 hc tr tu c0
   go_wp2_with fail
   go_roundw
   case rel => exact ⟨k + 1, _, by omega, by go_num, rfl, Q2.out, on3, up⟩
   case measure => simp [intOf]; omega
  ·obtain rfl : k = xs.length := by omega
   rw [mix_end] at ht
   have E : Hid (q = ((m + tot fL xs : Nat) : Int)) := Lib.hid (by have := HQ.out; rwa [List.take_length] at this)
   clear HQ
   go_wp2_with fail
   go_ret
   exact ⟨by rw [E.out]; rfl, on, ht⟩

set_option maxRecDepth 100000 in
set_option maxHeartbeats 3200000 in
theorem markConS_any (l h v) (xs : List ConC) (m : Nat) (w : World) (t : ConS true l h w v xs) (hw : h ≤ w.heap.size) (hm : m + tot fC xs ≤ 8388608) :
  Calls Tryz.prog 52 #[v, .int .i64 m] w fun e w' => e = .returned (.int .i64 ((m + tot fC xs : Nat) : Int)) ∧ Only l h w w' ∧ ConS true l h w' v (mkA gC fC m xs) := by
 obtain ⟨a, ka, rfl, la, ba⟩ := t.shape
 go_enter Tryz.func52, Tryz.ntmps52
 go_wp2_with fail
 go_loopw [1, 5] (fun n i wr => ∃ (k : Nat) (q : Int), k ≤ xs.length ∧ i = .int .i64 k ∧ n = .int .i64 q ∧ q = ((m + tot fC (xs.take k) : Nat) : Int) ∧ Only l h w wr ∧ ConS true l h wr (.slice a xs.length ka) (mix gC fC m xs k)) (fun _ i _ => xs.length - (intOf i).toNat)
 case atStart => exact ⟨0, m, Nat.zero_le _, rfl, rfl, by simp [tot], Only.refl _ _ _, t⟩
 case round =>
  obtain ⟨k, q, hk, rfl, rfl, hq, on, ht⟩ := hrel
  have HQ := Lib.hid hq
  have zs := on.size
  have hle := tot_le fC xs (k + 1)
  clear hq t
  by_cases hlt : k < xs.length
  ·have hst := tot_step (f := fC) hlt
   have hlen : (mix gC fC m xs k).length = xs.length := mix_length hk
   obtain ⟨b, off, cs, L, H, rfl, p1, p2, p3, p4, hc, ⟨va, vb, vc, l1, h1, l2, h2, l3, h3, rfl, e1, e2, e3, e4, e5, e6, dis, ta, tb, tc⟩, ho⟩ := Shape.row_focus (E := conSh) ht (j := k) (by omega)
   obtain ⟨d1, d2, d3⟩ := ho rfl
   obtain ⟨s1, s2, s3⟩ := dis rfl
   rw [mix_at hlt] at ta tb tc
   have c0 : wr.cell? ⟨b, off + k * 3, none⟩ = some va := hc 0 _ rfl
   have c1 : wr.cell? ⟨b, off + k * 3 + 1, none⟩ = some vb := hc 1 _ rfl
   have c2 : wr.cell? ⟨b, off + k * 3 + 2, none⟩ = some vc := hc 2 _ rfl
   obtain ⟨x, kx, rfl, lx, bx⟩ := ta.shape
   obtain ⟨y, ky, rfl, ly, by'⟩ := tb.shape
   obtain ⟨z, kz, rfl, lz, bz⟩ := tc.shape
   have bl : b < wr.heap.size := World.block_lt_of_cell? _ _ c0
   have q0 : 0 ≤ q := by have := HQ.out; omega
   have ef : fC xs[k] = 2 * xs[k].a.length + 2 * xs[k].b.length + 2 * xs[k].c.length := rfl
   have q1 : q + 2 * (xs[k].a.length : Int) + 2 * (xs[k].b.length : Int) + 2 * (xs[k].c.length : Int) ≤ 8388608 := by have := HQ.out; omega
   have SET : Hid ((mix gC fC m xs k).set k ⟨marks q.toNat xs[k].a.length, marks (q + 2 * (xs[k].a.length : Int)).toNat xs[k].b.length, marks (q + 2 * (xs[k].a.length : Int) + 2 * (xs[k].b.length : Int)).toNat xs[k].c.length⟩ = mix gC fC m xs (k + 1)) := Lib.hid (by
    rw [← mix_set hlt]; have := HQ.out
    rw [show (q + 2 * (xs[k].a.length : Int) + 2 * (xs[k].b.length : Int)).toNat = m + tot fC (xs.take k) + 2 * xs[k].a.length + 2 * xs[k].b.length from by omega, show (q + 2 * (xs[k].a.length : Int)).toNat = m + tot fC (xs.take k) + 2 * xs[k].a.length from by omega, show q.toNat = m + tot fC (xs.take k) from by omega]; rfl)
   have Q2 : Hid (q + 2 * (xs[k].a.length : Int) + 2 * (xs[k].b.length : Int) + 2 * (xs[k].c.length : Int) = ((m + tot fC (xs.take (k + 1)) : Nat) : Int)) := Lib.hid (by have := HQ.out; omega)
   have n1 : 0 ≤ q + 2 * (xs[k].a.length : Int) := by omega
   have n2 : 0 ≤ q + 2 * (xs[k].a.length : Int) + 2 * (xs[k].b.length : Int) := by omega
   clear hst hle hlen ef ht ho
   go_wp2_with fail
   refine (markTermS_int l1 h1 _ xs[k].a q _ ta (by omega) (by omega) q0 (by omega)).mono ?_; rintro e w2 ⟨rfl, on2, tra⟩
   have z2 := on2.size
   have tb2 := tb.only on2 (by omega) (by omega)
   have tc2 := tc.only on2 (by omega) (by omega)
   have c1' := (on2.cell bl (by omega) (off + k * 3 + 1)).trans c1
   have c2' := (on2.cell bl (by omega) (off + k * 3 + 2)).trans c2
   have bl2 : b < w2.heap.size := by omega
   clear ta tb tc c0 c1 c2
   go_wp2_with fail
   refine (markTermS_int l2 h2 _ xs[k].b (q + 2 * (xs[k].a.length : Int)) _ tb2 (by omega) (by omega) n1 (by omega)).mono ?_; rintro e w3 ⟨rfl, on3, trb⟩
   have z3 := on3.size
   have tra3 := tra.only on3 (by omega) (by omega)
   have tc3 := tc2.only on3 (by omega) (by omega)
   have c2'' := (on3.cell bl2 (by omega) (off + k * 3 + 2)).trans c2'
   have bl3 : b < w3.heap.size := by omega
   clear tra tb2 tc2 c1' c2'
   go_wp2_with fail
   refine (markTermS_int l3 h3 _ xs[k].c (q + 2 * (xs[k].a.length : Int) + 2 * (xs[k].b.length : Int)) _ tc3 (by omega) (by omega) n2 (by omega)).mono ?_; rintro e w4 ⟨rfl, on4, trc⟩
   have z4 := on4.size
   have tra4 := tra3.only on4 (by omega) (by omega)
   have trb4 := trb.only on4 (by omega) (by omega)
   have ch := (((Shape.Chg.refl b (off + k * 3) 3 L H wr).only on2 e1 e2 (by omega) bl).only on3 e3 e4 (by omega) bl).only on4 e5 e6 (by omega) bl
   have up := d3 w4 [.slice x xs[k].a.length kx, .slice y xs[k].b.length ky, .slice z xs[k].c.length kz] ⟨_, _, _⟩ L H h ch (fun f c hf => by
    rw [on4.cell bl3 (by omega), on3.cell bl2 (by omega), on2.cell bl (by omega)]; exact hc f c hf) ⟨_, _, _, l1, h1, l2, h2, l3, h3, by simp [marks_length], e1, e2, e3, e4, e5, e6, fun _ => ⟨s1, s2, s3⟩, tra4, trb4, trc⟩ (by omega) (Nat.le_refl _) (.inl ⟨Nat.le_refl _, Nat.le_refl _⟩)
   rw [SET.out] at up
   have on5 : Only l h w w4 := ((on.trans (on2.wide (by omega) (by omega))).trans (on3.wide (by omega) (by omega))).trans (on4.wide (by omega) (by omega))
   clear d3 hc tra4 trb4 trc tra3 trb tc3 ch c2''
   go_wp2_with fail
   go_roundw
   case rel => exact ⟨k + 1, _, by omega, by go_num, rfl, Q2.out, on5, up⟩
   case measure => simp [intOf]; omega
  ·obtain rfl : k = xs.length := by omega
   rw [mix_end] at ht
   have E : Hid (q = ((m + tot fC xs : Nat) : Int)) := Lib.hid (by have := HQ.out; rwa [List.take_length] at this)
   clear HQ
   go_wp2_with fail
   go_ret
   exact ⟨by rw [E.out]; rfl, on, ht⟩

set_option maxRecDepth 100000 in
set_option maxHeartbeats 3200000 in
theorem markHintS_any (l h v) (xs : List HintC) (m : Nat) (w : World) (t : HintS true l h w v xs) (hw : h ≤ w.heap.size) (hm : m + tot fH xs ≤ 8388608) :
  Calls Tryz.prog 51 #[v, .int .i64 m] w fun e w' => e = .returned (.int .i64 ((m + tot fH xs : Nat) : Int)) ∧ Only l h w w' ∧ HintS true l h w' v (mkA gH fH m xs) := by
 obtain ⟨a, ka, rfl, la, ba⟩ := t.shape
 go_enter Tryz.func51, Tryz.ntmps51
 go_wp2_with fail
 go_loopw [1, 5] (fun n i wr => ∃ (k : Nat) (q : Int), k ≤ xs.length ∧ i = .int .i64 k ∧ n = .int .i64 q ∧ q = ((m + tot fH (xs.take k) : Nat) : Int) ∧ Only l h w wr ∧ HintS true l h wr (.slice a xs.length ka) (mix gH fH m xs k)) (fun _ i _ => xs.length - (intOf i).toNat)
 case atStart => exact ⟨0, m, Nat.zero_le _, rfl, rfl, by simp [tot], Only.refl _ _ _, t⟩
 case round =>
  obtain ⟨k, q, hk, rfl, rfl, hq, on, ht⟩ := hrel
  have HQ := Lib.hid hq
  have zs := on.size
  have hle := tot_le fH xs (k + 1)
  clear hq t
  by_cases hlt : k < xs.length
  ·have hst := tot_step (f := fH) hlt
   have hlen : (mix gH fH m xs k).length = xs.length := mix_length hk
   obtain ⟨b, off, cs, L, H, rfl, p1, p2, p3, p4, hc, ⟨va, vb, l1, h1, l2, h2, rfl, f0, f3, e1, e2, e3, e4, dis, ta, tb⟩, ho⟩ := Shape.row_focus (E := hintSh) ht (j := k) (by omega)
   obtain ⟨d1, d2, d3⟩ := ho rfl
   have s1 := dis rfl
   have c0 : wr.cell? ⟨b, off + k * 4, none⟩ = some _ := hc 0 _ rfl
   have c1 : wr.cell? ⟨b, off + k * 4 + 1, none⟩ = some va := hc 1 _ rfl
   have c2 : wr.cell? ⟨b, off + k * 4 + 2, none⟩ = some vb := hc 2 _ rfl
   have c3 : wr.cell? ⟨b, off + k * 4 + 3, none⟩ = some _ := hc 3 _ rfl
   rw [mix_at hlt] at ta tb c0 c3
   clear hc f0 f3 dis
   obtain ⟨x, kx, rfl, lx, bx⟩ := ta.shape
   obtain ⟨y, ky, rfl, ly, by'⟩ := tb.shape
   have bl : b < wr.heap.size := World.block_lt_of_cell? _ _ c0
   have fz0 := d2 (off + k * 4)
   have fz3 := d2 (off + k * 4 + 3)
   have q0 : 0 ≤ q := by have := HQ.out; omega
   have ef : fH xs[k] = 2 + 2 * xs[k].a.length + 2 * xs[k].b.length := rfl
   have q1 : q + 1 + 2 * (xs[k].a.length : Int) + 2 * (xs[k].b.length : Int) + 1 ≤ 8388608 := by have := HQ.out; omega
   have SET : Hid ((mix gH fH m xs k).set k ⟨q, marks (q + 1).toNat xs[k].a.length, marks (q + 1 + 2 * (xs[k].a.length : Int)).toNat xs[k].b.length, q + 1 + 2 * (xs[k].a.length : Int) + 2 * (xs[k].b.length : Int)⟩ = mix gH fH m xs (k + 1)) := Lib.hid (by
    rw [← mix_set hlt]; have := HQ.out
    rw [show (q + 1 + 2 * (xs[k].a.length : Int)).toNat = m + tot fH (xs.take k) + 1 + 2 * xs[k].a.length from by omega, show (q + 1).toNat = m + tot fH (xs.take k) + 1 from by omega]
    rw [show q + 1 + 2 * (xs[k].a.length : Int) + 2 * (xs[k].b.length : Int) = ((m + tot fH (xs.take k) + 1 + 2 * xs[k].a.length + 2 * xs[k].b.length : Nat) : Int) from by omega, show q = ((m + tot fH (xs.take k) : Nat) : Int) from this]; rfl)
   have Q2 : Hid (q + 1 + 2 * (xs[k].a.length : Int) + 2 * (xs[k].b.length : Int) + 1 = ((m + tot fH (xs.take (k + 1)) : Nat) : Int)) := Lib.hid (by have := HQ.out; omega)
   have n1 : 0 ≤ q + 1 := by omega
   have n2 : 0 ≤ q + 1 + 2 * (xs[k].a.length : Int) := by omega
   have n3 : 0 ≤ q + 1 + 2 * (xs[k].a.length : Int) + 2 * (xs[k].b.length : Int) := by omega
   clear hst hle hlen ef ht ho d2
   have c1s : ∀ u, (wr.setCell ⟨b, off + k * 4, none⟩ u).cell? ⟨b, off + k * 4 + 1, none⟩ = some (.slice x xs[k].a.length kx) := fun u => (World.cell?_setCell_other _ _ _ _ (by simp)).trans c1
   go_wp2_with fail
   refine name_call fun w1 hw1 => ?_
   have z1 : w1.heap.size = wr.heap.size := by rw [hw1]; simp [World.setCell]
   have ta1 : Terms true l1 h1 w1 _ _ := ta.agree (by rw [hw1]; exact same_set2 (by omega))
   have tb1 : Terms true l2 h2 w1 _ _ := tb.agree (by rw [hw1]; exact same_set2 (by omega))
   have g0 : w1.cell? ⟨b, off + k * 4, none⟩ = some (.int .i64 q) := by rw [hw1]; exact World.cell?_setCell_same _ _ _ c0
   have g1 : w1.cell? ⟨b, off + k * 4 + 1, none⟩ = some (.slice x xs[k].a.length kx) := by rw [hw1]; exact c1s _
   have g2 : w1.cell? ⟨b, off + k * 4 + 2, none⟩ = some (.slice y xs[k].b.length ky) := by rw [hw1]; exact (World.cell?_setCell_other _ _ _ _ (by simp)).trans c2
   have g3 : w1.cell? ⟨b, off + k * 4 + 3, none⟩ = some (.int .i64 xs[k].k) := by rw [hw1]; exact (World.cell?_setCell_other _ _ _ _ (by simp)).trans c3
   have fz1 : w1.frozen? ⟨b, off + k * 4 + 3, none⟩ = false := by rw [hw1, World.frozen?_setCell]; exact fz3
   have on1 : Only l h w w1 := by rw [hw1]; exact on.setCell p1 p2 _
   have ch1 : Shape.Chg b (off + k * 4) 4 L H wr w1 := by rw [hw1]; exact (Shape.Chg.refl _ _ _ _ _ _).setCell (Nat.le_refl _) (by omega) _
   have bl1 : b < w1.heap.size := by omega
   clear hw1 c0 c1 c2 c3 c1s ta tb fz0 fz3
   refine (markTermS_int l1 h1 _ xs[k].a (q + 1) _ ta1 (by omega) (by omega) n1 (by omega)).mono ?_; rintro e w2 ⟨rfl, on2, tra⟩
   have z2 := on2.size
   have tb2 := tb1.only on2 (by omega) (by omega)
   have i0 := (on2.cell bl1 (by omega) (off + k * 4)).trans g0
   have i1 := (on2.cell bl1 (by omega) (off + k * 4 + 1)).trans g1
   have i2 := (on2.cell bl1 (by omega) (off + k * 4 + 2)).trans g2
   have i3 := (on2.cell bl1 (by omega) (off + k * 4 + 3)).trans g3
   have fz2 := (on2.frozen bl1 (by omega) (off + k * 4 + 3)).trans fz1
   have ch2 := ch1.only on2 e1 e2 (by omega) bl
   have bl2 : b < w2.heap.size := by omega
   clear g0 g1 g2 g3 fz1 ta1 tb1 ch1
   go_wp2_with fail
   refine (markTermS_int l2 h2 _ xs[k].b (q + 1 + 2 * (xs[k].a.length : Int)) _ tb2 (by omega) (by omega) n2 (by omega)).mono ?_; rintro e w3 ⟨rfl, on3, trb⟩
   have z3 := on3.size
   have tra3 := tra.only on3 (by omega) (by omega)
   have j0 := (on3.cell bl2 (by omega) (off + k * 4)).trans i0
   have j1 := (on3.cell bl2 (by omega) (off + k * 4 + 1)).trans i1
   have j2 := (on3.cell bl2 (by omega) (off + k * 4 + 2)).trans i2
   have j3 := (on3.cell bl2 (by omega) (off + k * 4 + 3)).trans i3
   have fzl := (on3.frozen bl2 (by omega) (off + k * 4 + 3)).trans fz2
   have ch3 := (ch2.only on3 e3 e4 (by omega) bl).setCell (i := off + k * 4 + 3) (by omega) (by omega) (.int .i64 (q + 1 + 2 * (xs[k].a.length : Int) + 2 * (xs[k].b.length : Int)))
   have ua := tra3.agree (same_set2 (b := b) (o := off + k * 4 + 3) (u := .int .i64 (q + 1 + 2 * (xs[k].a.length : Int) + 2 * (xs[k].b.length : Int))) (by omega))
   have ub := trb.agree (same_set2 (b := b) (o := off + k * 4 + 3) (u := .int .i64 (q + 1 + 2 * (xs[k].a.length : Int) + 2 * (xs[k].b.length : Int))) (by omega))
   have r0 := (World.cell?_setCell_other w3 ⟨b, off + k * 4 + 3, none⟩ ⟨b, off + k * 4, none⟩ (.int .i64 (q + 1 + 2 * (xs[k].a.length : Int) + 2 * (xs[k].b.length : Int))) (by simp)).trans j0
   have r1 := (World.cell?_setCell_other w3 ⟨b, off + k * 4 + 3, none⟩ ⟨b, off + k * 4 + 1, none⟩ (.int .i64 (q + 1 + 2 * (xs[k].a.length : Int) + 2 * (xs[k].b.length : Int))) (by simp)).trans j1
   have r2 := (World.cell?_setCell_other w3 ⟨b, off + k * 4 + 3, none⟩ ⟨b, off + k * 4 + 2, none⟩ (.int .i64 (q + 1 + 2 * (xs[k].a.length : Int) + 2 * (xs[k].b.length : Int))) (by simp)).trans j2
   have r3 := World.cell?_setCell_same w3 ⟨b, off + k * 4 + 3, none⟩ (.int .i64 (q + 1 + 2 * (xs[k].a.length : Int) + 2 * (xs[k].b.length : Int))) j3
   have up := d3 _ [.int .i64 q, .slice x xs[k].a.length kx, .slice y xs[k].b.length ky, .int .i64 (q + 1 + 2 * (xs[k].a.length : Int) + 2 * (xs[k].b.length : Int))] ⟨q, _, _, q + 1 + 2 * (xs[k].a.length : Int) + 2 * (xs[k].b.length : Int)⟩ L H h ch3 (fun f c hf => by
    match f, hf with
    | 0, hf => simp only [List.getElem?_cons_zero, Option.some.injEq] at hf; subst hf; exact r0
    | 1, hf => simp only [List.getElem?_cons_succ, List.getElem?_cons_zero, Option.some.injEq] at hf; subst hf; exact r1
    | 2, hf => simp only [List.getElem?_cons_succ, List.getElem?_cons_zero, Option.some.injEq] at hf; subst hf; exact r2
    | 3, hf => simp only [List.getElem?_cons_succ, List.getElem?_cons_zero, Option.some.injEq] at hf; subst hf; exact r3)
    ⟨_, _, l1, h1, l2, h2, by simp [marks_length], by unfold Fits; simp only; omega, by unfold Fits; simp only; omega, e1, e2, e3, e4, fun _ => s1, ua, ub⟩ (by omega) (Nat.le_refl _) (.inl ⟨Nat.le_refl _, Nat.le_refl _⟩)
   rw [SET.out] at up
   have on5 := ((on1.trans (on2.wide (by omega) (by omega))).trans (on3.wide (by omega) (by omega))).setCell (p := ⟨b, off + k * 4 + 3, none⟩) p1 p2 (.int .i64 (q + 1 + 2 * (xs[k].a.length : Int) + 2 * (xs[k].b.length : Int)))
   clear d3 tra tra3 trb ua ub ch2 ch3 r0 r1 r2 r3 i0 i1 i2 i3 fz2 tb2 j0 j1 j2
   go_wp2_with fail
   go_roundw
   case rel => exact ⟨k + 1, _, by omega, by go_num, rfl, Q2.out, on5, up⟩
   case measure => simp [intOf]; omega
  ·obtain rfl : k = xs.length := by omega
   rw [mix_end] at ht
   have E : Hid (q = ((m + tot fH xs : Nat) : Int)) := Lib.hid (by have := HQ.out; rwa [List.take_length] at this)
   clear HQ
   go_wp2_with fail
   go_ret
   exact ⟨by rw [E.out]; rfl, on, ht⟩

def totS (s : SysC) : Nat := tot fL s.outs + tot fH s.hints + tot fC s.cons
def mkS (m : Nat) (s : SysC) : SysC := ⟨s.ins, mkA gL fL m s.outs, mkA gH fH (m + tot fL s.outs) s.hints, mkA gC fC (m + tot fL s.outs + tot fH s.hints) s.cons⟩
theorem tot_fL (xs : List (List T)) : tot fL xs = 2 * tot List.length xs := by
 induction xs with
 | nil => rfl
 | cons x r ih => simp only [tot, List.map_cons, List.sum_cons, fL] at *; omega
theorem tot_fH (xs : List HintC) : tot fH xs = 2 * xs.length + 2 * tot szH xs := by
 induction xs with
 | nil => rfl
 | cons x r ih => simp only [tot, List.map_cons, List.sum_cons, fH, szH, List.length_cons] at *; omega
theorem tot_fC (xs : List ConC) : tot fC xs = 2 * tot szC xs := by
 induction xs with
 | nil => rfl
 | cons x r ih => simp only [tot, List.map_cons, List.sum_cons, fC, szC] at *; omega
theorem totS_le (s : SysC) : totS s ≤ 2 * szS s := by
 unfold totS szS szLs szHs szCs
 rw [tot_fL, tot_fH, tot_fC]; omega

set_option maxRecDepth 100000 in
set_option maxHeartbeats 3200000 in
theorem markSys_any (l h vi vo vh vc) (s : SysC) (m : Nat) (w : World) (t : SysR true l h w vi vo vh vc s) (hw : h ≤ w.heap.size) (hm : m + totS s ≤ 8388608) :
  Calls Tryz.prog 14 #[.agg #[vi, vo, vh, vc], .int .i64 m] w fun e w' => e = .returned (.int .i64 ((m + totS s : Nat) : Int)) ∧ Only l h w w' ∧ SysR true l h w' vi vo vh vc (mkS m s) := by
 obtain ⟨ao, ko, ah, kh, ac, kc, rfl, rfl, rfl, rfl, lo, bo, lh, bh, lc, bc, fi⟩ := t.shape
 obtain ⟨-, -, l1, h1, l2, h2, l3, h3, p1, p2, p3, p4, p5, p6, dis, tO, tH, tC⟩ := t
 obtain ⟨s1, s2, s3⟩ := dis rfl
 have hm' : m + tot fL s.outs + tot fH s.hints + tot fC s.cons ≤ 8388608 := by unfold totS at hm; omega
 rw [show m + totS s = m + tot fL s.outs + tot fH s.hints + tot fC s.cons from by unfold totS; omega]
 clear hm dis
 obtain ⟨m1, hm1⟩ : ∃ q : Nat, q = m + tot fL s.outs := ⟨_, rfl⟩
 obtain ⟨m2, hm2⟩ : ∃ q : Nat, q = m1 + tot fH s.hints := ⟨_, rfl⟩
 have MK : Hid (mkS m s = ⟨s.ins, mkA gL fL m s.outs, mkA gH fH m1 s.hints, mkA gC fC m2 s.cons⟩) := Lib.hid (by unfold mkS; rw [hm2, hm1])
 have N1 := markLinS_any l1 h1 (.slice ao s.outs.length ko) s.outs m
 have N2 := markHintS_any l2 h2 (.slice ah s.hints.length kh) s.hints m1
 have N3 := markConS_any l3 h3 (.slice ac s.cons.length kc) s.cons m2
 rw [← hm1] at N1
 rw [← hm2] at N2
 rw [← hm1, ← hm2]
 rw [← hm1, ← hm2] at hm'
 have H1 := Lib.hid N1
 have H2 := Lib.hid N2
 have H3 := Lib.hid N3
 have B1 : m1 ≤ 8388608 := by omega
 have B2 : m2 ≤ 8388608 := by omega
 have C1 : m + tot fL s.outs ≤ 8388608 := by omega
 have C2 : m1 + tot fH s.hints ≤ 8388608 := by omega
 clear N1 N2 N3 hm1 hm2
 go_enter Tryz.func14, Tryz.ntmps14
 go_wp2_with fail
 refine name_call fun w1 hw1 => ?_
 have o1 : Only l h w w1 := by rw [hw1]; (repeat (first | with_reducible exact Only.refl _ _ _ | with_reducible assumption | with_reducible refine Only.drew ?_ | with_reducible refine odrewN ?_ _ | with_reducible refine Only.alloc ?_ _ | ((with_reducible refine oset ?_ ?_ ?_ _); (focus (first | with_reducible exact Nat.le_refl _ | (simp; done) | omega | (simp; omega) | exact Nat.le_refl _)); (focus (first | with_reducible exact Nat.le_refl _ | (simp; done) | omega | (simp; omega) | exact Nat.le_refl _)))))
 have b1 : Below w.heap.size w w1 := by rw [hw1]; (repeat (with_reducible first | exact bR _ _ | assumption | refine bD ?_ | refine bN ?_ _ | refine bA ?_ _ | refine bS ?_ _))
 have z1 : w.heap.size + 1 ≤ w1.heap.size := by rw [hw1]; simp
 have cH : w1.cell? ⟨w.heap.size, 2, none⟩ = some (.slice ah s.hints.length kh) := by rw [hw1]; first | (simp; done) | go_simp
 have cC : w1.cell? ⟨w.heap.size, 3, none⟩ = some (.slice ac s.cons.length kc) := by rw [hw1]; first | (simp; done) | go_simp
 have tO1 := tO.keep b1 (by omega)
 have tH1 := tH.keep b1 (by omega)
 have tC1 := tC.keep b1 (by omega)
 clear hw1 tO tH tC
 refine (H1.out w1 tO1 (by omega) B1).mono ?_; rintro e w2 ⟨rfl, on2, rO⟩
 have z2 := on2.size
 have o2 := o1.trans (on2.wide p1 p2)
 have cH2 := (on2.cell (b := w.heap.size) (by omega) (by omega) 2).trans cH
 have cC2 := (on2.cell (b := w.heap.size) (by omega) (by omega) 3).trans cC
 have tH2 := tH1.agree (Same.of_only on2 (by omega) (by omega))
 have tC2 := tC1.agree (Same.of_only on2 (by omega) (by omega))
 have lw2 : w.heap.size < w2.heap.size := by omega
 clear cH cC tO1 tH1 tC1
 go_wp2_with fail
 refine (H2.out w2 tH2 (by omega) B2).mono ?_; rintro e w3 ⟨rfl, on3, rH⟩
 have z3 := on3.size
 have o3 := o2.trans (on3.wide p3 p4)
 have cC3 := (on3.cell (b := w.heap.size) (by omega) (by omega) 3).trans cC2
 have rO3 := rO.agree (Same.of_only on3 (by omega) (by omega))
 have tC3 := tC2.agree (Same.of_only on3 (by omega) (by omega))
 have lw3 : w.heap.size < w3.heap.size := by omega
 clear cH2 cC2 tH2 tC2 rO lw2
 go_wp2_with fail
 refine (H3.out w3 tC3 (by omega) hm').mono ?_; rintro e w4 ⟨rfl, on4, rC⟩
 have o4 := o3.trans (on4.wide p5 p6)
 have rO4 := rO3.agree (Same.of_only on4 (by omega) (by omega))
 have rH4 := rH.agree (Same.of_only on4 (by omega) (by omega))
 clear cC3 rO3 rH tC3
 go_wp2_with fail
 go_ret
 exact ⟨rfl, o4, by rw [MK.out]; exact ⟨rfl, fi, l1, h1, l2, h2, l3, h3, p1, p2, p3, p4, p5, p6, fun _ => ⟨s1, s2, s3⟩, rO4, rH4, rC⟩⟩
end Go.Proofs.YthipgpbapdambaaGreat.L
