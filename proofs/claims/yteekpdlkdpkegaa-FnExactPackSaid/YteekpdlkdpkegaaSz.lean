/- The sizes of slices of combinations, hints, constraints, and of systems. -/
import Derived.Test.YteekpdlkdpkegaaSysR
namespace Go.Proofs.Yteekpdlkdpkegaa.L
open Go.RowKit Go.Proofs.Yteekpdlkdpkegaa.S
set_option linter.unusedVariables false
set_option linter.unusedSimpArgs false

/-- What is left of n behind a size, or -1. -/
def left (n : Int) (s : Nat) : Int := if n < s then -1 else n - s
theorem left_no {n : Int} {s : Nat} (h : n < s) : left n s = -1 := if_pos h
theorem left_ok {n : Int} {s : Nat} (h : ¬ n < s) : left n s = n - s := if_neg h
/-- The sum of a measure over a list. -/
def tot {α : Type} (f : α → Nat) (xs : List α) : Nat := (xs.map f).sum
theorem tot_step {α : Type} {f : α → Nat} {xs : List α} {k : Nat} (h : k < xs.length) : tot f (xs.take (k + 1)) = tot f (xs.take k) + f xs[k] := by
  unfold tot; rw [take_step (List.getElem?_eq_getElem h), List.map_append, List.sum_append_nat]; simp
theorem tot_le {α : Type} (f : α → Nat) (xs : List α) (k : Nat) : tot f (xs.take k) ≤ tot f xs := by
  have h : tot f xs = tot f (xs.take k) + tot f (xs.drop k) := by
    unfold tot
    rw [← List.sum_append_nat, ← List.map_append, List.take_append_drop]
  omega
theorem tot_nil {α : Type} (f : α → Nat) : tot f [] = 0 := rfl
def szLs (ls : List (List T)) : Nat := ls.length + tot List.length ls
def szH (h : HintC) : Nat := h.a.length + h.b.length
def szHs (hs : List HintC) : Nat := hs.length + tot szH hs
def szC (c : ConC) : Nat := c.a.length + c.b.length + c.c.length
def szCs (cs : List ConC) : Nat := cs.length + tot szC cs
def szS (s : SysC) : Nat := szLs s.outs + szHs s.hints + szCs s.cons

theorem szLin_left (o l h v ts) (n : Int) (w : World) (t : Terms o l h w v ts) (hw : h ≤ w.heap.size) (n0 : 0 ≤ n) (n1 : n ≤ 1048576) :
    Calls Try.prog 14 #[.agg #[v], .int .i64 n] w fun e w' => e = .returned (.int .i64 (left n ts.length)) ∧ Below w.heap.size w w' := szLin_any o l h v ts n w t hw n0 n1
theorem szLin_ok (o l h v ts) (n : Int) (w : World) (t : Terms o l h w v ts) (hw : h ≤ w.heap.size) (n1 : n ≤ 1048576) (hn : (ts.length : Int) ≤ n) :
    Calls Try.prog 14 #[.agg #[v], .int .i64 n] w fun e w' => e = .returned (.int .i64 (n - ts.length)) ∧ Below w.heap.size w w' := by
  have := szLin_left o l h v ts n w t hw (by omega) n1
  rwa [left_ok (by omega)] at this
theorem szLin_no (o l h v ts) (n : Int) (w : World) (t : Terms o l h w v ts) (hw : h ≤ w.heap.size) (n0 : 0 ≤ n) (n1 : n ≤ 1048576) (hn : n < (ts.length : Int)) :
    Calls Try.prog 14 #[.agg #[v], .int .i64 n] w fun e w' => e = .returned (.int .i64 (-1)) ∧ Below w.heap.size w w' := by
  have := szLin_left o l h v ts n w t hw n0 n1
  rwa [left_no hn] at this

set_option maxRecDepth 100000 in
set_option maxHeartbeats 1600000 in
theorem szLinS_left (o l h v) (ls : List (List T)) (n : Int) (w : World) (t : LinS o l h w v ls) (hw : h ≤ w.heap.size) (n0 : 0 ≤ n) (n1 : n ≤ 1048576) :
    Calls Try.prog 40 #[v, .int .i64 n] w fun e w' => e = .returned (.int .i64 (left n (szLs ls))) ∧ Below w.heap.size w w' := by
  obtain ⟨a, ka, rfl, la, ba⟩ := t.shape
  by_cases hl : n < ls.length
  · rw [left_no (by unfold szLs; omega)]
    go_enter Try.func40, Try.ntmps40
    go_wp2_with fail
    go_ret
    exact ⟨rfl, by (repeat (first | with_reducible exact Below.refl _ _ | with_reducible assumption | with_reducible refine Below.drew ?_ | with_reducible refine bdrewN ?_ _ | ((with_reducible refine balloc ?_ ?_ _); (focus (first | with_reducible exact Nat.le_refl _ | (simp; done) | omega | (simp; omega) | exact Nat.le_refl _))) | ((with_reducible refine bset ?_ ?_ _); (focus (first | with_reducible exact Nat.le_refl _ | (simp; done) | omega | (simp; omega) | exact Nat.le_refl _)))))⟩
  · go_enter Try.func40, Try.ntmps40
    go_wp2_with fail
    go_loopw [1, 5] (fun q i wr => ∃ (k : Nat) (m : Int), k ≤ ls.length ∧ q = .int .i64 m ∧ i = .int .i64 k ∧ 0 ≤ m ∧ m ≤ 1048576 ∧ m + ls.length + tot List.length (ls.take k) = n ∧ Below w.heap.size w wr) (fun q i _ => ls.length - (intOf i).toNat)
    case atStart => exact ⟨0, n - ls.length, Nat.zero_le _, rfl, rfl, by omega, by omega, by simp [tot_nil], Below.refl _ _⟩
    case round =>
      obtain ⟨k, m, hk, rfl, rfl, m0, m1, hs, be⟩ := hrel
      have HS := Lib.hid hs
      clear hs
      have zb := be.size
      by_cases hlt : k < ls.length
      · have st := tot_step (f := List.length) hlt
        have le := tot_le List.length ls (k + 1)
        obtain ⟨b, off, u, rfl, l1, m1', c1, tu⟩ := (t.keep be hw).at hlt
        obtain ⟨x, kx, rfl, lx, bx⟩ := tu.shape
        by_cases hm : m < ls[k].length
        · have E : Hid (left n (szLs ls) = -1) := Lib.hid (left_no (by have := HS.out; unfold szLs; omega))
          clear st le
          go_wp2_with fail
          refine (szLin_no o l h _ ls[k] m _ tu (by omega) m0 m1 hm).mono ?_; rintro e w2 ⟨rfl, f⟩
          go_wp2_with fail
          go_ret
          exact ⟨by rw [E.out]; rfl, be.trans (f.mono be.size)⟩
        · have E : Hid ((m - ls[k].length) + ls.length + tot List.length (ls.take (k + 1)) = n) := Lib.hid (by have := HS.out; omega)
          have hm' : 0 ≤ m - ls[k].length := by omega
          have hm2 : m - ls[k].length ≤ 1048576 := by omega
          have hm3 : (ls[k].length : Int) ≤ m := by omega
          clear st le hm
          go_wp2_with fail
          refine (szLin_ok o l h _ ls[k] m _ tu (by omega) m1 hm3).mono ?_; rintro e w2 ⟨rfl, f⟩
          go_wp2_with fail
          go_roundw
          case rel => exact ⟨k + 1, m - ls[k].length, by omega, rfl, by go_num, hm', hm2, E.out, be.trans (f.mono be.size)⟩
          case measure => simp [intOf]; omega
      · have hke : k = ls.length := by omega
        have E : Hid (left n (szLs ls) = m) := Lib.hid (by have := HS.out; rw [take_end hlt] at this; rw [left_ok (by unfold szLs; omega)]; unfold szLs; omega)
        clear hke
        go_wp2_with fail
        go_ret
        exact ⟨by rw [E.out]; rfl, be⟩

set_option maxRecDepth 100000 in
set_option maxHeartbeats 1600000 in
theorem szHint_left (o l h va vb) (x : HintC) (n : Int) (w : World) (ta : Terms o l h w va x.a) (tb : Terms o l h w vb x.b) (hw : h ≤ w.heap.size) (n0 : 0 ≤ n) (n1 : n ≤ 1048576) :
    Calls Try.prog 108 #[.agg #[.int .i64 x.kind, va, vb, .int .i64 x.k], .int .i64 n] w fun e w' => e = .returned (.int .i64 (left n (szH x))) ∧ Below w.heap.size w w' := by
  obtain ⟨aa, ka, rfl, la, ba⟩ := ta.shape
  obtain ⟨ab, kb, rfl, lb, bb⟩ := tb.shape
  by_cases hA : n < x.a.length
  · rw [left_no (by unfold szH; omega)]
    go_enter Try.func108, Try.ntmps108
    go_wp2_with fail
    refine name_call fun w1 hw1 => ?_
    have b1 : Below w.heap.size w w1 := by rw [hw1]; (repeat (first | with_reducible exact Below.refl _ _ | with_reducible assumption | with_reducible refine Below.drew ?_ | with_reducible refine bdrewN ?_ _ | ((with_reducible refine balloc ?_ ?_ _); (focus (first | with_reducible exact Nat.le_refl _ | (simp; done) | omega | (simp; omega) | exact Nat.le_refl _))) | ((with_reducible refine bset ?_ ?_ _); (focus (first | with_reducible exact Nat.le_refl _ | (simp; done) | omega | (simp; omega) | exact Nat.le_refl _)))))
    have z1 := b1.size
    clear hw1
    refine (szLin_no o l h _ x.a n _ (ta.keep b1 hw) (by omega) n0 n1 hA).mono ?_; rintro e w2 ⟨rfl, f2⟩
    have b2 := b1.trans (f2.mono (by omega))
    go_wp2_with fail
    go_ret
    exact ⟨rfl, b2⟩
  · by_cases hB : n - x.a.length < x.b.length
    · rw [left_no (by unfold szH; omega)]
      go_enter Try.func108, Try.ntmps108
      go_wp2_with fail
      refine name_call fun w1 hw1 => ?_
      have b1 : Below w.heap.size w w1 := by rw [hw1]; (repeat (first | with_reducible exact Below.refl _ _ | with_reducible assumption | with_reducible refine Below.drew ?_ | with_reducible refine bdrewN ?_ _ | ((with_reducible refine balloc ?_ ?_ _); (focus (first | with_reducible exact Nat.le_refl _ | (simp; done) | omega | (simp; omega) | exact Nat.le_refl _))) | ((with_reducible refine bset ?_ ?_ _); (focus (first | with_reducible exact Nat.le_refl _ | (simp; done) | omega | (simp; omega) | exact Nat.le_refl _)))))
      have cB : w1.cell? ⟨w.heap.size, 2, none⟩ = some (.slice ab x.b.length kb) := by rw [hw1]; simp
      have z1 : w.heap.size < w1.heap.size := by rw [hw1]; simp
      clear hw1
      refine (szLin_ok o l h _ x.a n _ (ta.keep b1 hw) (by omega) n1 (by omega)).mono ?_; rintro e w2 ⟨rfl, f2⟩
      have b2 := b1.trans (f2.mono (by omega))
      have z2 := f2.size
      have cB2 := cell_keep f2 cB
      clear cB
      go_wp2_with fail
      refine (szLin_no o l h _ x.b _ _ (tb.keep b2 hw) (by omega) (by omega) (by omega) hB).mono ?_; rintro e w3 ⟨rfl, f3⟩
      have b3 := b2.trans (f3.mono (by omega))
      go_wp2_with fail
      go_ret
      exact ⟨rfl, b3⟩
    · have E : left n (szH x) = n - x.a.length - x.b.length := by rw [left_ok (by unfold szH; omega)]; unfold szH; omega
      rw [E]
      clear E
      have q0 : 0 ≤ n - x.a.length := by omega
      have q1 : n - x.a.length ≤ 1048576 := by omega
      have q2 : 0 ≤ n - x.a.length - x.b.length := by omega
      have q3 : n - x.a.length - x.b.length ≤ 1048576 := by omega
      go_enter Try.func108, Try.ntmps108
      go_wp2_with fail
      refine name_call fun w1 hw1 => ?_
      have b1 : Below w.heap.size w w1 := by rw [hw1]; (repeat (first | with_reducible exact Below.refl _ _ | with_reducible assumption | with_reducible refine Below.drew ?_ | with_reducible refine bdrewN ?_ _ | ((with_reducible refine balloc ?_ ?_ _); (focus (first | with_reducible exact Nat.le_refl _ | (simp; done) | omega | (simp; omega) | exact Nat.le_refl _))) | ((with_reducible refine bset ?_ ?_ _); (focus (first | with_reducible exact Nat.le_refl _ | (simp; done) | omega | (simp; omega) | exact Nat.le_refl _)))))
      have cB : w1.cell? ⟨w.heap.size, 2, none⟩ = some (.slice ab x.b.length kb) := by rw [hw1]; simp
      have z1 : w.heap.size < w1.heap.size := by rw [hw1]; simp
      clear hw1
      refine (szLin_ok o l h _ x.a n _ (ta.keep b1 hw) (by omega) n1 (by omega)).mono ?_; rintro e w2 ⟨rfl, f2⟩
      have b2 := b1.trans (f2.mono (by omega))
      have z2 := f2.size
      have cB2 := cell_keep f2 cB
      clear cB
      go_wp2_with fail
      refine (szLin_ok o l h _ x.b _ _ (tb.keep b2 hw) (by omega) (by omega) (by omega)).mono ?_; rintro e w3 ⟨rfl, f3⟩
      have b3 := b2.trans (f3.mono (by omega))
      go_wp2_with fail
      go_ret
      exact ⟨rfl, b3⟩
theorem szHint_ok (o l h va vb) (x : HintC) (n : Int) (w : World) (ta : Terms o l h w va x.a) (tb : Terms o l h w vb x.b) (hw : h ≤ w.heap.size) (n1 : n ≤ 1048576) (hn : (szH x : Int) ≤ n) :
    Calls Try.prog 108 #[.agg #[.int .i64 x.kind, va, vb, .int .i64 x.k], .int .i64 n] w fun e w' => e = .returned (.int .i64 (n - (szH x : Nat))) ∧ Below w.heap.size w w' := by
  have := szHint_left o l h va vb x n w ta tb hw (by omega) n1
  rwa [left_ok (by omega)] at this
theorem szHint_no (o l h va vb) (x : HintC) (n : Int) (w : World) (ta : Terms o l h w va x.a) (tb : Terms o l h w vb x.b) (hw : h ≤ w.heap.size) (n0 : 0 ≤ n) (n1 : n ≤ 1048576) (hn : n < (szH x : Nat)) :
    Calls Try.prog 108 #[.agg #[.int .i64 x.kind, va, vb, .int .i64 x.k], .int .i64 n] w fun e w' => e = .returned (.int .i64 (-1)) ∧ Below w.heap.size w w' := by
  have := szHint_left o l h va vb x n w ta tb hw n0 n1
  rwa [left_no hn] at this

set_option maxRecDepth 100000 in
set_option maxHeartbeats 1600000 in
theorem szCon_left (o l h va vb vc) (x : ConC) (n : Int) (w : World) (ta : Terms o l h w va x.a) (tb : Terms o l h w vb x.b) (tc : Terms o l h w vc x.c) (hw : h ≤ w.heap.size) (n0 : 0 ≤ n) (n1 : n ≤ 1048576) :
    Calls Try.prog 109 #[.agg #[va, vb, vc], .int .i64 n] w fun e w' => e = .returned (.int .i64 (left n (szC x))) ∧ Below w.heap.size w w' := by
  obtain ⟨aa, ka, rfl, la, ba⟩ := ta.shape
  obtain ⟨ab, kb, rfl, lb, bb⟩ := tb.shape
  obtain ⟨ac, kc, rfl, lc, bc⟩ := tc.shape
  by_cases hA : n < x.a.length
  · rw [left_no (by unfold szC; omega)]
    go_enter Try.func109, Try.ntmps109
    go_wp2_with fail
    refine name_call fun w1 hw1 => ?_
    have b1 : Below w.heap.size w w1 := by rw [hw1]; (repeat (first | with_reducible exact Below.refl _ _ | with_reducible assumption | with_reducible refine Below.drew ?_ | with_reducible refine bdrewN ?_ _ | ((with_reducible refine balloc ?_ ?_ _); (focus (first | with_reducible exact Nat.le_refl _ | (simp; done) | omega | (simp; omega) | exact Nat.le_refl _))) | ((with_reducible refine bset ?_ ?_ _); (focus (first | with_reducible exact Nat.le_refl _ | (simp; done) | omega | (simp; omega) | exact Nat.le_refl _)))))
    have cB : w1.cell? ⟨w.heap.size, 1, none⟩ = some (.slice ab x.b.length kb) := by rw [hw1]; simp
    have cC : w1.cell? ⟨w.heap.size, 2, none⟩ = some (.slice ac x.c.length kc) := by rw [hw1]; simp
    have z1 : w.heap.size < w1.heap.size := by rw [hw1]; simp
    clear hw1
    refine (szLin_no o l h _ x.a n _ (ta.keep b1 hw) (by omega) (by omega) (by omega) (by omega)).mono ?_; rintro e w2 ⟨rfl, f2⟩
    have b2 := b1.trans (f2.mono (by omega))
    go_wp2_with fail
    go_ret
    exact ⟨rfl, b2⟩
  · by_cases hB : n - x.a.length < x.b.length
    · rw [left_no (by unfold szC; omega)]
      go_enter Try.func109, Try.ntmps109
      go_wp2_with fail
      refine name_call fun w1 hw1 => ?_
      have b1 : Below w.heap.size w w1 := by rw [hw1]; (repeat (first | with_reducible exact Below.refl _ _ | with_reducible assumption | with_reducible refine Below.drew ?_ | with_reducible refine bdrewN ?_ _ | ((with_reducible refine balloc ?_ ?_ _); (focus (first | with_reducible exact Nat.le_refl _ | (simp; done) | omega | (simp; omega) | exact Nat.le_refl _))) | ((with_reducible refine bset ?_ ?_ _); (focus (first | with_reducible exact Nat.le_refl _ | (simp; done) | omega | (simp; omega) | exact Nat.le_refl _)))))
      have cB : w1.cell? ⟨w.heap.size, 1, none⟩ = some (.slice ab x.b.length kb) := by rw [hw1]; simp
      have cC : w1.cell? ⟨w.heap.size, 2, none⟩ = some (.slice ac x.c.length kc) := by rw [hw1]; simp
      have z1 : w.heap.size < w1.heap.size := by rw [hw1]; simp
      clear hw1
      refine (szLin_ok o l h _ x.a n _ (ta.keep b1 hw) (by omega) (by omega) (by omega)).mono ?_; rintro e w2 ⟨rfl, f2⟩
      have b2 := b1.trans (f2.mono (by omega))
      have z2 := f2.size
      replace cB := cell_keep f2 cB
      replace cC := cell_keep f2 cC
      go_wp2_with fail
      refine (szLin_no o l h _ x.b _ _ (tb.keep b2 hw) (by omega) (by omega) (by omega) (by omega)).mono ?_; rintro e w3 ⟨rfl, f3⟩
      have b3 := b2.trans (f3.mono (by omega))
      go_wp2_with fail
      go_ret
      exact ⟨rfl, b3⟩
    · by_cases hC : n - x.a.length - x.b.length < x.c.length
      · rw [left_no (by unfold szC; omega)]
        have q0 : 0 ≤ n - x.a.length := by omega
        have q1 : n - x.a.length ≤ 1048576 := by omega
        have q2 : 0 ≤ n - x.a.length - x.b.length := by omega
        have q3 : n - x.a.length - x.b.length ≤ 1048576 := by omega
        go_enter Try.func109, Try.ntmps109
        go_wp2_with fail
        refine name_call fun w1 hw1 => ?_
        have b1 : Below w.heap.size w w1 := by rw [hw1]; (repeat (first | with_reducible exact Below.refl _ _ | with_reducible assumption | with_reducible refine Below.drew ?_ | with_reducible refine bdrewN ?_ _ | ((with_reducible refine balloc ?_ ?_ _); (focus (first | with_reducible exact Nat.le_refl _ | (simp; done) | omega | (simp; omega) | exact Nat.le_refl _))) | ((with_reducible refine bset ?_ ?_ _); (focus (first | with_reducible exact Nat.le_refl _ | (simp; done) | omega | (simp; omega) | exact Nat.le_refl _)))))
        have cB : w1.cell? ⟨w.heap.size, 1, none⟩ = some (.slice ab x.b.length kb) := by rw [hw1]; simp
        have cC : w1.cell? ⟨w.heap.size, 2, none⟩ = some (.slice ac x.c.length kc) := by rw [hw1]; simp
        have z1 : w.heap.size < w1.heap.size := by rw [hw1]; simp
        clear hw1
        refine (szLin_ok o l h _ x.a n _ (ta.keep b1 hw) (by omega) (by omega) (by omega)).mono ?_; rintro e w2 ⟨rfl, f2⟩
        have b2 := b1.trans (f2.mono (by omega))
        have z2 := f2.size
        replace cB := cell_keep f2 cB
        replace cC := cell_keep f2 cC
        go_wp2_with fail
        refine (szLin_ok o l h _ x.b _ _ (tb.keep b2 hw) (by omega) (by omega) (by omega)).mono ?_; rintro e w3 ⟨rfl, f3⟩
        have b3 := b2.trans (f3.mono (by omega))
        have z3 := f3.size
        clear cB
        replace cC := cell_keep f3 cC
        go_wp2_with fail
        refine (szLin_no o l h _ x.c _ _ (tc.keep b3 hw) (by omega) (by omega) (by omega) (by omega)).mono ?_; rintro e w4 ⟨rfl, f4⟩
        have b4 := b3.trans (f4.mono (by omega))
        go_wp2_with fail
        go_ret
        exact ⟨rfl, b4⟩
      · have E : left n (szC x) = n - x.a.length - x.b.length - x.c.length := by rw [left_ok (by unfold szC; omega)]; unfold szC; omega
        rw [E]
        clear E
        have q0 : 0 ≤ n - x.a.length := by omega
        have q1 : n - x.a.length ≤ 1048576 := by omega
        have q2 : 0 ≤ n - x.a.length - x.b.length := by omega
        have q3 : n - x.a.length - x.b.length ≤ 1048576 := by omega
        have q4 : 0 ≤ n - x.a.length - x.b.length - x.c.length := by omega
        have q5 : n - x.a.length - x.b.length - x.c.length ≤ 1048576 := by omega
        go_enter Try.func109, Try.ntmps109
        go_wp2_with fail
        refine name_call fun w1 hw1 => ?_
        have b1 : Below w.heap.size w w1 := by rw [hw1]; (repeat (first | with_reducible exact Below.refl _ _ | with_reducible assumption | with_reducible refine Below.drew ?_ | with_reducible refine bdrewN ?_ _ | ((with_reducible refine balloc ?_ ?_ _); (focus (first | with_reducible exact Nat.le_refl _ | (simp; done) | omega | (simp; omega) | exact Nat.le_refl _))) | ((with_reducible refine bset ?_ ?_ _); (focus (first | with_reducible exact Nat.le_refl _ | (simp; done) | omega | (simp; omega) | exact Nat.le_refl _)))))
        have cB : w1.cell? ⟨w.heap.size, 1, none⟩ = some (.slice ab x.b.length kb) := by rw [hw1]; simp
        have cC : w1.cell? ⟨w.heap.size, 2, none⟩ = some (.slice ac x.c.length kc) := by rw [hw1]; simp
        have z1 : w.heap.size < w1.heap.size := by rw [hw1]; simp
        clear hw1
        refine (szLin_ok o l h _ x.a n _ (ta.keep b1 hw) (by omega) (by omega) (by omega)).mono ?_; rintro e w2 ⟨rfl, f2⟩
        have b2 := b1.trans (f2.mono (by omega))
        have z2 := f2.size
        replace cB := cell_keep f2 cB
        replace cC := cell_keep f2 cC
        go_wp2_with fail
        refine (szLin_ok o l h _ x.b _ _ (tb.keep b2 hw) (by omega) (by omega) (by omega)).mono ?_; rintro e w3 ⟨rfl, f3⟩
        have b3 := b2.trans (f3.mono (by omega))
        have z3 := f3.size
        clear cB
        replace cC := cell_keep f3 cC
        go_wp2_with fail
        refine (szLin_ok o l h _ x.c _ _ (tc.keep b3 hw) (by omega) (by omega) (by omega)).mono ?_; rintro e w4 ⟨rfl, f4⟩
        have b4 := b3.trans (f4.mono (by omega))
        go_wp2_with fail
        go_ret
        exact ⟨rfl, b4⟩
theorem szCon_ok (o l h va vb vc) (x : ConC) (n : Int) (w : World) (ta : Terms o l h w va x.a) (tb : Terms o l h w vb x.b) (tc : Terms o l h w vc x.c) (hw : h ≤ w.heap.size) (n1 : n ≤ 1048576) (hn : (szC x : Int) ≤ n) :
    Calls Try.prog 109 #[.agg #[va, vb, vc], .int .i64 n] w fun e w' => e = .returned (.int .i64 (n - (szC x : Nat))) ∧ Below w.heap.size w w' := by
  have := szCon_left o l h va vb vc x n w ta tb tc hw (by omega) n1
  rwa [left_ok (by omega)] at this
theorem szCon_no (o l h va vb vc) (x : ConC) (n : Int) (w : World) (ta : Terms o l h w va x.a) (tb : Terms o l h w vb x.b) (tc : Terms o l h w vc x.c) (hw : h ≤ w.heap.size) (n0 : 0 ≤ n) (n1 : n ≤ 1048576) (hn : n < (szC x : Nat)) :
    Calls Try.prog 109 #[.agg #[va, vb, vc], .int .i64 n] w fun e w' => e = .returned (.int .i64 (-1)) ∧ Below w.heap.size w w' := by
  have := szCon_left o l h va vb vc x n w ta tb tc hw n0 n1
  rwa [left_no hn] at this

set_option maxRecDepth 100000 in
set_option maxHeartbeats 1600000 in
theorem szHintS_left (o l h v) (ls : List HintC) (n : Int) (w : World) (t : HintS o l h w v ls) (hw : h ≤ w.heap.size) (n0 : 0 ≤ n) (n1 : n ≤ 1048576) :
    Calls Try.prog 51 #[v, .int .i64 n] w fun e w' => e = .returned (.int .i64 (left n (szHs ls))) ∧ Below w.heap.size w w' := by
  obtain ⟨a, ka, rfl, la, ba⟩ := t.shape
  by_cases hl : n < ls.length
  · rw [left_no (by unfold szHs; omega)]
    go_enter Try.func51, Try.ntmps51
    go_wp2_with fail
    go_ret
    exact ⟨rfl, by (repeat (first | with_reducible exact Below.refl _ _ | with_reducible assumption | with_reducible refine Below.drew ?_ | with_reducible refine bdrewN ?_ _ | ((with_reducible refine balloc ?_ ?_ _); (focus (first | with_reducible exact Nat.le_refl _ | (simp; done) | omega | (simp; omega) | exact Nat.le_refl _))) | ((with_reducible refine bset ?_ ?_ _); (focus (first | with_reducible exact Nat.le_refl _ | (simp; done) | omega | (simp; omega) | exact Nat.le_refl _)))))⟩
  · go_enter Try.func51, Try.ntmps51
    go_wp2_with fail
    go_loopw [1, 5] (fun q i wr => ∃ (k : Nat) (m : Int), k ≤ ls.length ∧ q = .int .i64 m ∧ i = .int .i64 k ∧ 0 ≤ m ∧ m ≤ 1048576 ∧ m + ls.length + tot szH (ls.take k) = n ∧ Below w.heap.size w wr) (fun q i _ => ls.length - (intOf i).toNat)
    case atStart => exact ⟨0, n - ls.length, Nat.zero_le _, rfl, rfl, by omega, by omega, by simp [tot_nil], Below.refl _ _⟩
    case round =>
      obtain ⟨k, m, hk, rfl, rfl, m0, m1, hs, be⟩ := hrel
      have HS := Lib.hid hs
      clear hs
      have zb := be.size
      by_cases hlt : k < ls.length
      · have st := tot_step (f := szH) hlt
        have le := tot_le szH ls (k + 1)
        obtain ⟨b, off, va, vb, rfl, l1, m1', c0, c1, c2, c3, _, _, ta, tb⟩ := (t.keep be hw).at hlt
        obtain ⟨x, kx, rfl, lx, bx⟩ := ta.shape
        obtain ⟨y, ky, rfl, ly, by'⟩ := tb.shape
        by_cases hm : m < (szH ls[k] : Nat)
        · have E : Hid (left n (szHs ls) = -1) := Lib.hid (left_no (by have := HS.out; unfold szHs; omega))
          clear st le
          go_wp2_with fail
          refine (szHint_no o l h _ _ ls[k] m _ ta tb (by omega) m0 m1 hm).mono ?_; rintro e w2 ⟨rfl, f⟩
          go_wp2_with fail
          go_ret
          exact ⟨by rw [E.out]; rfl, be.trans (f.mono be.size)⟩
        · have E : Hid ((m - (szH ls[k] : Nat)) + ls.length + tot szH (ls.take (k + 1)) = n) := Lib.hid (by have := HS.out; omega)
          have hm' : 0 ≤ m - (szH ls[k] : Nat) := by omega
          have hm2 : m - (szH ls[k] : Nat) ≤ 1048576 := by omega
          have hm3 : ((szH ls[k] : Nat) : Int) ≤ m := by omega
          clear st le hm
          go_wp2_with fail
          refine (szHint_ok o l h _ _ ls[k] m _ ta tb (by omega) m1 hm3).mono ?_; rintro e w2 ⟨rfl, f⟩
          go_wp2_with fail
          go_roundw
          case rel => exact ⟨k + 1, m - (szH ls[k] : Nat), by omega, rfl, by go_num, hm', hm2, E.out, be.trans (f.mono be.size)⟩
          case measure => simp [intOf]; omega
      · have hke : k = ls.length := by omega
        have E : Hid (left n (szHs ls) = m) := Lib.hid (by have := HS.out; rw [take_end hlt] at this; rw [left_ok (by unfold szHs; omega)]; unfold szHs; omega)
        clear hke
        go_wp2_with fail
        go_ret
        exact ⟨by rw [E.out]; rfl, be⟩

set_option maxRecDepth 100000 in
set_option maxHeartbeats 1600000 in
theorem szConS_left (o l h v) (ls : List ConC) (n : Int) (w : World) (t : ConS o l h w v ls) (hw : h ≤ w.heap.size) (n0 : 0 ≤ n) (n1 : n ≤ 1048576) :
    Calls Try.prog 52 #[v, .int .i64 n] w fun e w' => e = .returned (.int .i64 (left n (szCs ls))) ∧ Below w.heap.size w w' := by
  obtain ⟨a, ka, rfl, la, ba⟩ := t.shape
  by_cases hl : n < ls.length
  · rw [left_no (by unfold szCs; omega)]
    go_enter Try.func52, Try.ntmps52
    go_wp2_with fail
    go_ret
    exact ⟨rfl, by (repeat (first | with_reducible exact Below.refl _ _ | with_reducible assumption | with_reducible refine Below.drew ?_ | with_reducible refine bdrewN ?_ _ | ((with_reducible refine balloc ?_ ?_ _); (focus (first | with_reducible exact Nat.le_refl _ | (simp; done) | omega | (simp; omega) | exact Nat.le_refl _))) | ((with_reducible refine bset ?_ ?_ _); (focus (first | with_reducible exact Nat.le_refl _ | (simp; done) | omega | (simp; omega) | exact Nat.le_refl _)))))⟩
  · go_enter Try.func52, Try.ntmps52
    go_wp2_with fail
    go_loopw [1, 5] (fun q i wr => ∃ (k : Nat) (m : Int), k ≤ ls.length ∧ q = .int .i64 m ∧ i = .int .i64 k ∧ 0 ≤ m ∧ m ≤ 1048576 ∧ m + ls.length + tot szC (ls.take k) = n ∧ Below w.heap.size w wr) (fun q i _ => ls.length - (intOf i).toNat)
    case atStart => exact ⟨0, n - ls.length, Nat.zero_le _, rfl, rfl, by omega, by omega, by simp [tot_nil], Below.refl _ _⟩
    case round =>
      obtain ⟨k, m, hk, rfl, rfl, m0, m1, hs, be⟩ := hrel
      have HS := Lib.hid hs
      clear hs
      have zb := be.size
      by_cases hlt : k < ls.length
      · have st := tot_step (f := szC) hlt
        have le := tot_le szC ls (k + 1)
        obtain ⟨b, off, va, vb, vc, rfl, l1, m1', c0, c1, c2, ta, tb, tc⟩ := (t.keep be hw).at hlt
        obtain ⟨x, kx, rfl, lx, bx⟩ := ta.shape
        obtain ⟨y, ky, rfl, ly, by'⟩ := tb.shape
        obtain ⟨z, kz, rfl, lz, bz⟩ := tc.shape
        by_cases hm : m < (szC ls[k] : Nat)
        · have E : Hid (left n (szCs ls) = -1) := Lib.hid (left_no (by have := HS.out; unfold szCs; omega))
          clear st le
          go_wp2_with fail
          refine (szCon_no o l h _ _ _ ls[k] m _ ta tb tc (by omega) m0 m1 hm).mono ?_; rintro e w2 ⟨rfl, f⟩
          go_wp2_with fail
          go_ret
          exact ⟨by rw [E.out]; rfl, be.trans (f.mono be.size)⟩
        · have E : Hid ((m - (szC ls[k] : Nat)) + ls.length + tot szC (ls.take (k + 1)) = n) := Lib.hid (by have := HS.out; omega)
          have hm' : 0 ≤ m - (szC ls[k] : Nat) := by omega
          have hm2 : m - (szC ls[k] : Nat) ≤ 1048576 := by omega
          have hm3 : ((szC ls[k] : Nat) : Int) ≤ m := by omega
          clear st le hm
          go_wp2_with fail
          refine (szCon_ok o l h _ _ _ ls[k] m _ ta tb tc (by omega) m1 hm3).mono ?_; rintro e w2 ⟨rfl, f⟩
          go_wp2_with fail
          go_roundw
          case rel => exact ⟨k + 1, m - (szC ls[k] : Nat), by omega, rfl, by go_num, hm', hm2, E.out, be.trans (f.mono be.size)⟩
          case measure => simp [intOf]; omega
      · have hke : k = ls.length := by omega
        have E : Hid (left n (szCs ls) = m) := Lib.hid (by have := HS.out; rw [take_end hlt] at this; rw [left_ok (by unfold szCs; omega)]; unfold szCs; omega)
        clear hke
        go_wp2_with fail
        go_ret
        exact ⟨by rw [E.out]; rfl, be⟩

theorem szLinS_ok (o l h v) (ls : List (List T)) (n : Int) (w : World) (t : LinS o l h w v ls) (hw : h ≤ w.heap.size) (n1 : n ≤ 1048576) (hn : (szLs ls : Int) ≤ n) :
    Calls Try.prog 40 #[v, .int .i64 n] w fun e w' => e = .returned (.int .i64 (n - (szLs ls : Nat))) ∧ Below w.heap.size w w' := by
  have := szLinS_left o l h v ls n w t hw (by omega) n1
  rwa [left_ok (by omega)] at this
theorem szLinS_no (o l h v) (ls : List (List T)) (n : Int) (w : World) (t : LinS o l h w v ls) (hw : h ≤ w.heap.size) (n0 : 0 ≤ n) (n1 : n ≤ 1048576) (hn : n < (szLs ls : Nat)) :
    Calls Try.prog 40 #[v, .int .i64 n] w fun e w' => e = .returned (.int .i64 (-1)) ∧ Below w.heap.size w w' := by
  have := szLinS_left o l h v ls n w t hw n0 n1
  rwa [left_no hn] at this
theorem szHintS_ok (o l h v) (ls : List (HintC)) (n : Int) (w : World) (t : HintS o l h w v ls) (hw : h ≤ w.heap.size) (n1 : n ≤ 1048576) (hn : (szHs ls : Int) ≤ n) :
    Calls Try.prog 51 #[v, .int .i64 n] w fun e w' => e = .returned (.int .i64 (n - (szHs ls : Nat))) ∧ Below w.heap.size w w' := by
  have := szHintS_left o l h v ls n w t hw (by omega) n1
  rwa [left_ok (by omega)] at this
theorem szHintS_no (o l h v) (ls : List (HintC)) (n : Int) (w : World) (t : HintS o l h w v ls) (hw : h ≤ w.heap.size) (n0 : 0 ≤ n) (n1 : n ≤ 1048576) (hn : n < (szHs ls : Nat)) :
    Calls Try.prog 51 #[v, .int .i64 n] w fun e w' => e = .returned (.int .i64 (-1)) ∧ Below w.heap.size w w' := by
  have := szHintS_left o l h v ls n w t hw n0 n1
  rwa [left_no hn] at this
theorem szConS_ok (o l h v) (ls : List (ConC)) (n : Int) (w : World) (t : ConS o l h w v ls) (hw : h ≤ w.heap.size) (n1 : n ≤ 1048576) (hn : (szCs ls : Int) ≤ n) :
    Calls Try.prog 52 #[v, .int .i64 n] w fun e w' => e = .returned (.int .i64 (n - (szCs ls : Nat))) ∧ Below w.heap.size w w' := by
  have := szConS_left o l h v ls n w t hw (by omega) n1
  rwa [left_ok (by omega)] at this
theorem szConS_no (o l h v) (ls : List (ConC)) (n : Int) (w : World) (t : ConS o l h w v ls) (hw : h ≤ w.heap.size) (n0 : 0 ≤ n) (n1 : n ≤ 1048576) (hn : n < (szCs ls : Nat)) :
    Calls Try.prog 52 #[v, .int .i64 n] w fun e w' => e = .returned (.int .i64 (-1)) ∧ Below w.heap.size w w' := by
  have := szConS_left o l h v ls n w t hw n0 n1
  rwa [left_no hn] at this

set_option maxRecDepth 100000 in
set_option maxHeartbeats 1600000 in
theorem szSys_ok (o l h vi vo vh vc) (s : SysC) (n : Int) (w : World) (t : SysR o l h w vi vo vh vc s) (hw : h ≤ w.heap.size) (n0 : 0 ≤ n) (n1 : n ≤ 1048576) (hn : (szS s : Int) ≤ n) :
    Calls Try.prog 13 #[.agg #[vi, vo, vh, vc], .int .i64 n] w fun e w' => e = .returned (.int .i64 (n - szLs s.outs - szHs s.hints - szCs s.cons)) ∧ Below w.heap.size w w' := by
  obtain ⟨tO, tH, tC⟩ := t.parts
  obtain ⟨ao, ko, ah, kh, ac, kc, rfl, rfl, rfl, rfl, lo, bo, lh, bh, lc, bc, fi⟩ := t.shape
  clear t
  have q0 : 0 ≤ n - szLs s.outs := by first | omega | (unfold szS at hn; omega)
  have q1 : n - szLs s.outs ≤ 1048576 := by omega
  have q2 : 0 ≤ n - szLs s.outs - szHs s.hints := by first | omega | (unfold szS at hn; omega)
  have q3 : n - szLs s.outs - szHs s.hints ≤ 1048576 := by omega
  have q4 : 0 ≤ n - szLs s.outs - szHs s.hints - szCs s.cons := by first | omega | (unfold szS at hn; omega)
  have q5 : n - szLs s.outs - szHs s.hints - szCs s.cons ≤ 1048576 := by omega
  go_enter Try.func13, Try.ntmps13
  go_wp2_with fail
  refine name_call fun w1 hw1 => ?_
  have b1 : Below w.heap.size w w1 := by rw [hw1]; (repeat (first | with_reducible exact Below.refl _ _ | with_reducible assumption | with_reducible refine Below.drew ?_ | with_reducible refine bdrewN ?_ _ | ((with_reducible refine balloc ?_ ?_ _); (focus (first | with_reducible exact Nat.le_refl _ | (simp; done) | omega | (simp; omega) | exact Nat.le_refl _))) | ((with_reducible refine bset ?_ ?_ _); (focus (first | with_reducible exact Nat.le_refl _ | (simp; done) | omega | (simp; omega) | exact Nat.le_refl _)))))
  have z1 : w.heap.size + 1 ≤ w1.heap.size := by rw [hw1]; simp
  have e1 : Below w.heap.size w w1 := by rw [hw1]; (repeat (first | with_reducible exact Below.refl _ _ | with_reducible assumption | with_reducible refine Below.drew ?_ | with_reducible refine bdrewN ?_ _ | ((with_reducible refine balloc ?_ ?_ _); (focus (first | with_reducible exact Nat.le_refl _ | (simp; done) | omega | (simp; omega) | exact Nat.le_refl _))) | ((with_reducible refine bset ?_ ?_ _); (focus (first | with_reducible exact Nat.le_refl _ | (simp; done) | omega | (simp; omega) | exact Nat.le_refl _)))))
  have cX1 : w1.cell? ⟨w.heap.size, 1, none⟩ = some (.slice ao s.outs.length ko) := by rw [hw1]; first | (simp; done) | go_simp
  have cY1 : w1.cell? ⟨w.heap.size, 2, none⟩ = some (.slice ah s.hints.length kh) := by rw [hw1]; first | (simp; done) | go_simp
  have cZ1 : w1.cell? ⟨w.heap.size, 3, none⟩ = some (.slice ac s.cons.length kc) := by rw [hw1]; first | (simp; done) | go_simp
  have tO1 := tO.keep e1 (by omega)
  have tH1 := tH.keep e1 (by omega)
  have tC1 := tC.keep e1 (by omega)
  clear hw1
  refine (szLinS_ok o l h _ s.outs (n) _ tO1 (by omega) (by omega) (by omega)).mono ?_; rintro e w2 ⟨rfl, f2⟩
  have b2 := b1.trans (f2.mono (by omega))
  have z2 := f2.size
  have cX2 := cell_keep f2 cX1
  have cY2 := cell_keep f2 cY1
  have cZ2 := cell_keep f2 cZ1
  have tO2 := tO1.keep f2 (by omega)
  have tH2 := tH1.keep f2 (by omega)
  have tC2 := tC1.keep f2 (by omega)
  clear cX1 cY1 cZ1 tO1 tH1 tC1
  have lcX2 : w.heap.size < w2.heap.size := World.block_lt_of_cell? _ _ cX2
  go_wp2_with fail
  refine name_call fun w3 hw3 => ?_
  have b3 : Below w.heap.size w w3 := by rw [hw3]; (repeat (first | with_reducible exact Below.refl _ _ | with_reducible assumption | with_reducible refine Below.drew ?_ | with_reducible refine bdrewN ?_ _ | ((with_reducible refine balloc ?_ ?_ _); (focus (first | with_reducible exact Nat.le_refl _ | (simp; done) | omega | (simp; omega) | exact Nat.le_refl _))) | ((with_reducible refine bset ?_ ?_ _); (focus (first | with_reducible exact Nat.le_refl _ | (simp; done) | omega | (simp; omega) | exact Nat.le_refl _)))))
  have z3 : w2.heap.size + 0 ≤ w3.heap.size := by rw [hw3]; simp
  have e3 : Below w2.heap.size w2 w3 := by rw [hw3]; (repeat (first | with_reducible exact Below.refl _ _ | with_reducible assumption | with_reducible refine Below.drew ?_ | with_reducible refine bdrewN ?_ _ | ((with_reducible refine balloc ?_ ?_ _); (focus (first | with_reducible exact Nat.le_refl _ | (simp; done) | omega | (simp; omega) | exact Nat.le_refl _))) | ((with_reducible refine bset ?_ ?_ _); (focus (first | with_reducible exact Nat.le_refl _ | (simp; done) | omega | (simp; omega) | exact Nat.le_refl _)))))
  have cX3 := cell_keep e3 cX2
  have cY3 := cell_keep e3 cY2
  have cZ3 := cell_keep e3 cZ2
  have tO3 := tO2.keep e3 (by omega)
  have tH3 := tH2.keep e3 (by omega)
  have tC3 := tC2.keep e3 (by omega)
  clear hw3 lcX2 cX2 cY2 cZ2 tO2 tH2 tC2
  refine (szHintS_ok o l h _ s.hints (n - szLs s.outs) _ tH3 (by omega) (by omega) (by omega)).mono ?_; rintro e w4 ⟨rfl, f4⟩
  have b4 := b3.trans (f4.mono (by omega))
  have z4 := f4.size
  have cX4 := cell_keep f4 cX3
  have cY4 := cell_keep f4 cY3
  have cZ4 := cell_keep f4 cZ3
  have tO4 := tO3.keep f4 (by omega)
  have tH4 := tH3.keep f4 (by omega)
  have tC4 := tC3.keep f4 (by omega)
  clear cX3 cY3 cZ3 tO3 tH3 tC3
  have lcX4 : w.heap.size < w4.heap.size := World.block_lt_of_cell? _ _ cX4
  go_wp2_with fail
  refine name_call fun w5 hw5 => ?_
  have b5 : Below w.heap.size w w5 := by rw [hw5]; (repeat (first | with_reducible exact Below.refl _ _ | with_reducible assumption | with_reducible refine Below.drew ?_ | with_reducible refine bdrewN ?_ _ | ((with_reducible refine balloc ?_ ?_ _); (focus (first | with_reducible exact Nat.le_refl _ | (simp; done) | omega | (simp; omega) | exact Nat.le_refl _))) | ((with_reducible refine bset ?_ ?_ _); (focus (first | with_reducible exact Nat.le_refl _ | (simp; done) | omega | (simp; omega) | exact Nat.le_refl _)))))
  have z5 : w4.heap.size + 0 ≤ w5.heap.size := by rw [hw5]; simp
  have e5 : Below w4.heap.size w4 w5 := by rw [hw5]; (repeat (first | with_reducible exact Below.refl _ _ | with_reducible assumption | with_reducible refine Below.drew ?_ | with_reducible refine bdrewN ?_ _ | ((with_reducible refine balloc ?_ ?_ _); (focus (first | with_reducible exact Nat.le_refl _ | (simp; done) | omega | (simp; omega) | exact Nat.le_refl _))) | ((with_reducible refine bset ?_ ?_ _); (focus (first | with_reducible exact Nat.le_refl _ | (simp; done) | omega | (simp; omega) | exact Nat.le_refl _)))))
  have cX5 := cell_keep e5 cX4
  have cY5 := cell_keep e5 cY4
  have cZ5 := cell_keep e5 cZ4
  have tO5 := tO4.keep e5 (by omega)
  have tH5 := tH4.keep e5 (by omega)
  have tC5 := tC4.keep e5 (by omega)
  clear hw5 lcX4 cX4 cY4 cZ4 tO4 tH4 tC4
  refine (szConS_ok o l h _ s.cons (n - szLs s.outs - szHs s.hints) _ tC5 (by omega) (by omega) (by omega)).mono ?_; rintro e w6 ⟨rfl, f6⟩
  have b6 := b5.trans (f6.mono (by omega))
  have z6 := f6.size
  have cX6 := cell_keep f6 cX5
  have cY6 := cell_keep f6 cY5
  have cZ6 := cell_keep f6 cZ5
  have tO6 := tO5.keep f6 (by omega)
  have tH6 := tH5.keep f6 (by omega)
  have tC6 := tC5.keep f6 (by omega)
  clear cX5 cY5 cZ5 tO5 tH5 tC5
  go_wp2_with fail
  go_ret
  exact ⟨rfl, b6⟩

set_option maxRecDepth 100000 in
set_option maxHeartbeats 1600000 in
theorem szSys_no (o l h vi vo vh vc) (s : SysC) (n : Int) (w : World) (t : SysR o l h w vi vo vh vc s) (hw : h ≤ w.heap.size) (n0 : 0 ≤ n) (n1 : n ≤ 1048576) (hn : n < (szS s : Nat)) :
    Calls Try.prog 13 #[.agg #[vi, vo, vh, vc], .int .i64 n] w fun e w' => e = .returned (.int .i64 (-1)) ∧ Below w.heap.size w w' := by
  obtain ⟨tO, tH, tC⟩ := t.parts
  obtain ⟨ao, ko, ah, kh, ac, kc, rfl, rfl, rfl, rfl, lo, bo, lh, bh, lc, bc, fi⟩ := t.shape
  clear t
  by_cases hO : n < (szLs s.outs : Nat)
  · skip
    go_enter Try.func13, Try.ntmps13
    go_wp2_with fail
    refine name_call fun w1 hw1 => ?_
    have b1 : Below w.heap.size w w1 := by rw [hw1]; (repeat (first | with_reducible exact Below.refl _ _ | with_reducible assumption | with_reducible refine Below.drew ?_ | with_reducible refine bdrewN ?_ _ | ((with_reducible refine balloc ?_ ?_ _); (focus (first | with_reducible exact Nat.le_refl _ | (simp; done) | omega | (simp; omega) | exact Nat.le_refl _))) | ((with_reducible refine bset ?_ ?_ _); (focus (first | with_reducible exact Nat.le_refl _ | (simp; done) | omega | (simp; omega) | exact Nat.le_refl _)))))
    have z1 : w.heap.size + 1 ≤ w1.heap.size := by rw [hw1]; simp
    have e1 : Below w.heap.size w w1 := by rw [hw1]; (repeat (first | with_reducible exact Below.refl _ _ | with_reducible assumption | with_reducible refine Below.drew ?_ | with_reducible refine bdrewN ?_ _ | ((with_reducible refine balloc ?_ ?_ _); (focus (first | with_reducible exact Nat.le_refl _ | (simp; done) | omega | (simp; omega) | exact Nat.le_refl _))) | ((with_reducible refine bset ?_ ?_ _); (focus (first | with_reducible exact Nat.le_refl _ | (simp; done) | omega | (simp; omega) | exact Nat.le_refl _)))))
    have cX1 : w1.cell? ⟨w.heap.size, 1, none⟩ = some (.slice ao s.outs.length ko) := by rw [hw1]; first | (simp; done) | go_simp
    have cY1 : w1.cell? ⟨w.heap.size, 2, none⟩ = some (.slice ah s.hints.length kh) := by rw [hw1]; first | (simp; done) | go_simp
    have cZ1 : w1.cell? ⟨w.heap.size, 3, none⟩ = some (.slice ac s.cons.length kc) := by rw [hw1]; first | (simp; done) | go_simp
    have tO1 := tO.keep e1 (by omega)
    have tH1 := tH.keep e1 (by omega)
    have tC1 := tC.keep e1 (by omega)
    clear hw1
    refine (szLinS_no o l h _ s.outs (n) _ tO1 (by omega) (by omega) (by omega) (by omega)).mono ?_; rintro e w2 ⟨rfl, f2⟩
    have b2 := b1.trans (f2.mono (by omega))
    have z2 := f2.size
    have cX2 := cell_keep f2 cX1
    have cY2 := cell_keep f2 cY1
    have cZ2 := cell_keep f2 cZ1
    have tO2 := tO1.keep f2 (by omega)
    have tH2 := tH1.keep f2 (by omega)
    have tC2 := tC1.keep f2 (by omega)
    clear cX1 cY1 cZ1 tO1 tH1 tC1
    go_wp2_with fail
    go_ret
    exact ⟨rfl, b2⟩
  · by_cases hH : n - szLs s.outs < (szHs s.hints : Nat)
    · skip
      have q0 : 0 ≤ n - szLs s.outs := by first | omega | (unfold szS at hn; omega)
      have q1 : n - szLs s.outs ≤ 1048576 := by omega
      go_enter Try.func13, Try.ntmps13
      go_wp2_with fail
      refine name_call fun w1 hw1 => ?_
      have b1 : Below w.heap.size w w1 := by rw [hw1]; (repeat (first | with_reducible exact Below.refl _ _ | with_reducible assumption | with_reducible refine Below.drew ?_ | with_reducible refine bdrewN ?_ _ | ((with_reducible refine balloc ?_ ?_ _); (focus (first | with_reducible exact Nat.le_refl _ | (simp; done) | omega | (simp; omega) | exact Nat.le_refl _))) | ((with_reducible refine bset ?_ ?_ _); (focus (first | with_reducible exact Nat.le_refl _ | (simp; done) | omega | (simp; omega) | exact Nat.le_refl _)))))
      have z1 : w.heap.size + 1 ≤ w1.heap.size := by rw [hw1]; simp
      have e1 : Below w.heap.size w w1 := by rw [hw1]; (repeat (first | with_reducible exact Below.refl _ _ | with_reducible assumption | with_reducible refine Below.drew ?_ | with_reducible refine bdrewN ?_ _ | ((with_reducible refine balloc ?_ ?_ _); (focus (first | with_reducible exact Nat.le_refl _ | (simp; done) | omega | (simp; omega) | exact Nat.le_refl _))) | ((with_reducible refine bset ?_ ?_ _); (focus (first | with_reducible exact Nat.le_refl _ | (simp; done) | omega | (simp; omega) | exact Nat.le_refl _)))))
      have cX1 : w1.cell? ⟨w.heap.size, 1, none⟩ = some (.slice ao s.outs.length ko) := by rw [hw1]; first | (simp; done) | go_simp
      have cY1 : w1.cell? ⟨w.heap.size, 2, none⟩ = some (.slice ah s.hints.length kh) := by rw [hw1]; first | (simp; done) | go_simp
      have cZ1 : w1.cell? ⟨w.heap.size, 3, none⟩ = some (.slice ac s.cons.length kc) := by rw [hw1]; first | (simp; done) | go_simp
      have tO1 := tO.keep e1 (by omega)
      have tH1 := tH.keep e1 (by omega)
      have tC1 := tC.keep e1 (by omega)
      clear hw1
      refine (szLinS_ok o l h _ s.outs (n) _ tO1 (by omega) (by omega) (by omega)).mono ?_; rintro e w2 ⟨rfl, f2⟩
      have b2 := b1.trans (f2.mono (by omega))
      have z2 := f2.size
      have cX2 := cell_keep f2 cX1
      have cY2 := cell_keep f2 cY1
      have cZ2 := cell_keep f2 cZ1
      have tO2 := tO1.keep f2 (by omega)
      have tH2 := tH1.keep f2 (by omega)
      have tC2 := tC1.keep f2 (by omega)
      clear cX1 cY1 cZ1 tO1 tH1 tC1
      have lcX2 : w.heap.size < w2.heap.size := World.block_lt_of_cell? _ _ cX2
      go_wp2_with fail
      refine name_call fun w3 hw3 => ?_
      have b3 : Below w.heap.size w w3 := by rw [hw3]; (repeat (first | with_reducible exact Below.refl _ _ | with_reducible assumption | with_reducible refine Below.drew ?_ | with_reducible refine bdrewN ?_ _ | ((with_reducible refine balloc ?_ ?_ _); (focus (first | with_reducible exact Nat.le_refl _ | (simp; done) | omega | (simp; omega) | exact Nat.le_refl _))) | ((with_reducible refine bset ?_ ?_ _); (focus (first | with_reducible exact Nat.le_refl _ | (simp; done) | omega | (simp; omega) | exact Nat.le_refl _)))))
      have z3 : w2.heap.size + 0 ≤ w3.heap.size := by rw [hw3]; simp
      have e3 : Below w2.heap.size w2 w3 := by rw [hw3]; (repeat (first | with_reducible exact Below.refl _ _ | with_reducible assumption | with_reducible refine Below.drew ?_ | with_reducible refine bdrewN ?_ _ | ((with_reducible refine balloc ?_ ?_ _); (focus (first | with_reducible exact Nat.le_refl _ | (simp; done) | omega | (simp; omega) | exact Nat.le_refl _))) | ((with_reducible refine bset ?_ ?_ _); (focus (first | with_reducible exact Nat.le_refl _ | (simp; done) | omega | (simp; omega) | exact Nat.le_refl _)))))
      have cX3 := cell_keep e3 cX2
      have cY3 := cell_keep e3 cY2
      have cZ3 := cell_keep e3 cZ2
      have tO3 := tO2.keep e3 (by omega)
      have tH3 := tH2.keep e3 (by omega)
      have tC3 := tC2.keep e3 (by omega)
      clear hw3 lcX2 cX2 cY2 cZ2 tO2 tH2 tC2
      refine (szHintS_no o l h _ s.hints (n - szLs s.outs) _ tH3 (by omega) (by omega) (by omega) (by omega)).mono ?_; rintro e w4 ⟨rfl, f4⟩
      have b4 := b3.trans (f4.mono (by omega))
      have z4 := f4.size
      have cX4 := cell_keep f4 cX3
      have cY4 := cell_keep f4 cY3
      have cZ4 := cell_keep f4 cZ3
      have tO4 := tO3.keep f4 (by omega)
      have tH4 := tH3.keep f4 (by omega)
      have tC4 := tC3.keep f4 (by omega)
      clear cX3 cY3 cZ3 tO3 tH3 tC3
      go_wp2_with fail
      go_ret
      exact ⟨rfl, b4⟩
    · have hC : n - szLs s.outs - szHs s.hints < (szCs s.cons : Nat) := by unfold szS at hn; omega
      have q0 : 0 ≤ n - szLs s.outs := by first | omega | (unfold szS at hn; omega)
      have q1 : n - szLs s.outs ≤ 1048576 := by omega
      have q2 : 0 ≤ n - szLs s.outs - szHs s.hints := by first | omega | (unfold szS at hn; omega)
      have q3 : n - szLs s.outs - szHs s.hints ≤ 1048576 := by omega
      go_enter Try.func13, Try.ntmps13
      go_wp2_with fail
      refine name_call fun w1 hw1 => ?_
      have b1 : Below w.heap.size w w1 := by rw [hw1]; (repeat (first | with_reducible exact Below.refl _ _ | with_reducible assumption | with_reducible refine Below.drew ?_ | with_reducible refine bdrewN ?_ _ | ((with_reducible refine balloc ?_ ?_ _); (focus (first | with_reducible exact Nat.le_refl _ | (simp; done) | omega | (simp; omega) | exact Nat.le_refl _))) | ((with_reducible refine bset ?_ ?_ _); (focus (first | with_reducible exact Nat.le_refl _ | (simp; done) | omega | (simp; omega) | exact Nat.le_refl _)))))
      have z1 : w.heap.size + 1 ≤ w1.heap.size := by rw [hw1]; simp
      have e1 : Below w.heap.size w w1 := by rw [hw1]; (repeat (first | with_reducible exact Below.refl _ _ | with_reducible assumption | with_reducible refine Below.drew ?_ | with_reducible refine bdrewN ?_ _ | ((with_reducible refine balloc ?_ ?_ _); (focus (first | with_reducible exact Nat.le_refl _ | (simp; done) | omega | (simp; omega) | exact Nat.le_refl _))) | ((with_reducible refine bset ?_ ?_ _); (focus (first | with_reducible exact Nat.le_refl _ | (simp; done) | omega | (simp; omega) | exact Nat.le_refl _)))))
      have cX1 : w1.cell? ⟨w.heap.size, 1, none⟩ = some (.slice ao s.outs.length ko) := by rw [hw1]; first | (simp; done) | go_simp
      have cY1 : w1.cell? ⟨w.heap.size, 2, none⟩ = some (.slice ah s.hints.length kh) := by rw [hw1]; first | (simp; done) | go_simp
      have cZ1 : w1.cell? ⟨w.heap.size, 3, none⟩ = some (.slice ac s.cons.length kc) := by rw [hw1]; first | (simp; done) | go_simp
      have tO1 := tO.keep e1 (by omega)
      have tH1 := tH.keep e1 (by omega)
      have tC1 := tC.keep e1 (by omega)
      clear hw1
      refine (szLinS_ok o l h _ s.outs (n) _ tO1 (by omega) (by omega) (by omega)).mono ?_; rintro e w2 ⟨rfl, f2⟩
      have b2 := b1.trans (f2.mono (by omega))
      have z2 := f2.size
      have cX2 := cell_keep f2 cX1
      have cY2 := cell_keep f2 cY1
      have cZ2 := cell_keep f2 cZ1
      have tO2 := tO1.keep f2 (by omega)
      have tH2 := tH1.keep f2 (by omega)
      have tC2 := tC1.keep f2 (by omega)
      clear cX1 cY1 cZ1 tO1 tH1 tC1
      have lcX2 : w.heap.size < w2.heap.size := World.block_lt_of_cell? _ _ cX2
      go_wp2_with fail
      refine name_call fun w3 hw3 => ?_
      have b3 : Below w.heap.size w w3 := by rw [hw3]; (repeat (first | with_reducible exact Below.refl _ _ | with_reducible assumption | with_reducible refine Below.drew ?_ | with_reducible refine bdrewN ?_ _ | ((with_reducible refine balloc ?_ ?_ _); (focus (first | with_reducible exact Nat.le_refl _ | (simp; done) | omega | (simp; omega) | exact Nat.le_refl _))) | ((with_reducible refine bset ?_ ?_ _); (focus (first | with_reducible exact Nat.le_refl _ | (simp; done) | omega | (simp; omega) | exact Nat.le_refl _)))))
      have z3 : w2.heap.size + 0 ≤ w3.heap.size := by rw [hw3]; simp
      have e3 : Below w2.heap.size w2 w3 := by rw [hw3]; (repeat (first | with_reducible exact Below.refl _ _ | with_reducible assumption | with_reducible refine Below.drew ?_ | with_reducible refine bdrewN ?_ _ | ((with_reducible refine balloc ?_ ?_ _); (focus (first | with_reducible exact Nat.le_refl _ | (simp; done) | omega | (simp; omega) | exact Nat.le_refl _))) | ((with_reducible refine bset ?_ ?_ _); (focus (first | with_reducible exact Nat.le_refl _ | (simp; done) | omega | (simp; omega) | exact Nat.le_refl _)))))
      have cX3 := cell_keep e3 cX2
      have cY3 := cell_keep e3 cY2
      have cZ3 := cell_keep e3 cZ2
      have tO3 := tO2.keep e3 (by omega)
      have tH3 := tH2.keep e3 (by omega)
      have tC3 := tC2.keep e3 (by omega)
      clear hw3 lcX2 cX2 cY2 cZ2 tO2 tH2 tC2
      refine (szHintS_ok o l h _ s.hints (n - szLs s.outs) _ tH3 (by omega) (by omega) (by omega)).mono ?_; rintro e w4 ⟨rfl, f4⟩
      have b4 := b3.trans (f4.mono (by omega))
      have z4 := f4.size
      have cX4 := cell_keep f4 cX3
      have cY4 := cell_keep f4 cY3
      have cZ4 := cell_keep f4 cZ3
      have tO4 := tO3.keep f4 (by omega)
      have tH4 := tH3.keep f4 (by omega)
      have tC4 := tC3.keep f4 (by omega)
      clear cX3 cY3 cZ3 tO3 tH3 tC3
      have lcX4 : w.heap.size < w4.heap.size := World.block_lt_of_cell? _ _ cX4
      go_wp2_with fail
      refine name_call fun w5 hw5 => ?_
      have b5 : Below w.heap.size w w5 := by rw [hw5]; (repeat (first | with_reducible exact Below.refl _ _ | with_reducible assumption | with_reducible refine Below.drew ?_ | with_reducible refine bdrewN ?_ _ | ((with_reducible refine balloc ?_ ?_ _); (focus (first | with_reducible exact Nat.le_refl _ | (simp; done) | omega | (simp; omega) | exact Nat.le_refl _))) | ((with_reducible refine bset ?_ ?_ _); (focus (first | with_reducible exact Nat.le_refl _ | (simp; done) | omega | (simp; omega) | exact Nat.le_refl _)))))
      have z5 : w4.heap.size + 0 ≤ w5.heap.size := by rw [hw5]; simp
      have e5 : Below w4.heap.size w4 w5 := by rw [hw5]; (repeat (first | with_reducible exact Below.refl _ _ | with_reducible assumption | with_reducible refine Below.drew ?_ | with_reducible refine bdrewN ?_ _ | ((with_reducible refine balloc ?_ ?_ _); (focus (first | with_reducible exact Nat.le_refl _ | (simp; done) | omega | (simp; omega) | exact Nat.le_refl _))) | ((with_reducible refine bset ?_ ?_ _); (focus (first | with_reducible exact Nat.le_refl _ | (simp; done) | omega | (simp; omega) | exact Nat.le_refl _)))))
      have cX5 := cell_keep e5 cX4
      have cY5 := cell_keep e5 cY4
      have cZ5 := cell_keep e5 cZ4
      have tO5 := tO4.keep e5 (by omega)
      have tH5 := tH4.keep e5 (by omega)
      have tC5 := tC4.keep e5 (by omega)
      clear hw5 lcX4 cX4 cY4 cZ4 tO4 tH4 tC4
      refine (szConS_no o l h _ s.cons (n - szLs s.outs - szHs s.hints) _ tC5 (by omega) (by omega) (by omega) (by omega)).mono ?_; rintro e w6 ⟨rfl, f6⟩
      have b6 := b5.trans (f6.mono (by omega))
      have z6 := f6.size
      have cX6 := cell_keep f6 cX5
      have cY6 := cell_keep f6 cY5
      have cZ6 := cell_keep f6 cZ5
      have tO6 := tO5.keep f6 (by omega)
      have tH6 := tH5.keep f6 (by omega)
      have tC6 := tC5.keep f6 (by omega)
      clear cX5 cY5 cZ5 tO5 tH5 tC5
      go_wp2_with fail
      go_ret
      exact ⟨rfl, b6⟩
end Go.Proofs.Yteekpdlkdpkegaa.L
