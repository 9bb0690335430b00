/- Valid systems: the program's SysOk. -/
import Derived.Test.YteekpdlkdpkegaaWith
namespace Go.Proofs.Yteekpdlkdpkegaa.L
open Go.RowKit Go.Proofs.Yteekpdlkdpkegaa.S
set_option linter.unusedVariables false
set_option linter.unusedSimpArgs false

def varsN (s : SysC) : Int := 1 + s.ins + s.hints.length
def limB (s : SysC) : Bool := decide (0 ≤ s.ins ∧ s.ins ≤ 100 ∧ s.outs.length ≤ 40 ∧ varsN s ≤ 3000 ∧ s.cons.length ≤ 4000)
def hintsB : Int → List HintC → Bool
  | _, [] => true
  | n, h :: r => hintW n h && hintsB (n + 1) r
def outsB (n : Int) (ls : List (List T)) : Bool := ls.all (linW n)
def consB (n : Int) (cs : List ConC) : Bool := cs.all (conW n)
def sysOk (s : SysC) : Bool := limB s && (hintsB (1 + s.ins) s.hints && (outsB (varsN s) s.outs && consB (varsN s) s.cons))

theorem hintsB_step {n : Int} {hs : List HintC} {k : Nat} (hk : k < hs.length) (h : hintW (n + k) hs[k] = true) : hintsB (n + k) (hs.drop k) = hintsB (n + (k + 1 : Nat)) (hs.drop (k + 1)) := by
  rw [List.drop_eq_getElem_cons hk, hintsB, h, Bool.true_and, show n + (k : Int) + 1 = n + (k + 1 : Nat) from by omega]
theorem hintsB_stop {n : Int} {hs : List HintC} {k : Nat} (hk : k < hs.length) (h : hintW (n + k) hs[k] = false) : hintsB (n + k) (hs.drop k) = false := by
  rw [List.drop_eq_getElem_cons hk, hintsB, h, Bool.false_and]
theorem all_step {α : Type} {f : α → Bool} {xs : List α} {k : Nat} (hk : k < xs.length) (h : f xs[k] = true) : (xs.drop k).all f = (xs.drop (k + 1)).all f := by
  rw [List.drop_eq_getElem_cons hk, List.all_cons, h, Bool.true_and]
theorem all_stop {α : Type} {f : α → Bool} {xs : List α} {k : Nat} (hk : k < xs.length) (h : f xs[k] = false) : (xs.drop k).all f = false := by
  rw [List.drop_eq_getElem_cons hk, List.all_cons, h, Bool.false_and]
theorem sysOk_lim {s : SysC} (h : limB s = false) : sysOk s = false := by simp [sysOk, h]
theorem sysOk_hints {s : SysC} (h : hintsB (1 + s.ins) s.hints = false) : sysOk s = false := by simp [sysOk, h]
theorem sysOk_outs {s : SysC} (h : outsB (varsN s) s.outs = false) : sysOk s = false := by simp [sysOk, h]
theorem sysOk_cons {s : SysC} (h : consB (varsN s) s.cons = false) : sysOk s = false := by simp [sysOk, h]
theorem sysOk_yes {s : SysC} (h1 : limB s = true) (h2 : hintsB (1 + s.ins) s.hints = true) (h3 : outsB (varsN s) s.outs = true) (h4 : consB (varsN s) s.cons = true) : sysOk s = true := by simp [sysOk, h1, h2, h3, h4]
theorem limB_facts {s : SysC} (h : limB s = true) : 0 ≤ s.ins ∧ s.ins ≤ 100 ∧ s.outs.length ≤ 40 ∧ 1 + s.ins + s.hints.length ≤ 3000 ∧ s.cons.length ≤ 4000 := of_decide_eq_true h
theorem sysOk_limB {s : SysC} (h : sysOk s = true) : limB s = true := by
  cases hl : limB s
  · rw [sysOk_lim hl] at h; cases h
  · rfl

set_option maxRecDepth 100000 in
theorem vars_any (s : SysC) (ao ko ah kh ac kc) (w : World) (i0 : 0 ≤ s.ins) (i1 : s.ins ≤ 100) (hn : s.hints.length ≤ 1048576) :
    Calls Try.prog 119 #[.agg #[.int .i64 s.ins, .slice ao s.outs.length ko, .slice ah s.hints.length kh, .slice ac s.cons.length kc]] w fun e w' => e = .returned (.int .i64 (1 + s.ins + s.hints.length)) ∧ Below w.heap.size w w' := by
  go_enter Try.func119, Try.ntmps119
  go_wp2_with fail
  go_ret
  exact ⟨rfl, by (repeat (first | with_reducible exact Below.refl _ _ | with_reducible assumption | with_reducible refine Below.drew ?_ | with_reducible refine bdrewN ?_ _ | ((with_reducible refine balloc ?_ ?_ _); (focus (first | with_reducible exact Nat.le_refl _ | (simp; done) | omega | (simp; omega) | exact Nat.le_refl _))) | ((with_reducible refine bset ?_ ?_ _); (focus (first | with_reducible exact Nat.le_refl _ | (simp; done) | omega | (simp; omega) | exact Nat.le_refl _)))))⟩

set_option maxRecDepth 100000 in
set_option maxHeartbeats 1600000 in
theorem limits_no (s : SysC) (ao ko ah kh ac kc) (w : World) (hn : s.hints.length ≤ 1048576) (lo : s.outs.length ≤ 1048576) (lc : s.cons.length ≤ 1048576) (hl : limB s = false) :
    Calls Try.prog 147 #[.agg #[.int .i64 s.ins, .slice ao s.outs.length ko, .slice ah s.hints.length kh, .slice ac s.cons.length kc]] w fun e w' => e = .returned (.bool false) ∧ Below w.heap.size w w' := by
  have hl' := of_decide_eq_false hl
  unfold varsN at hl'
  have cs : (s.ins < 0) ∨ (0 ≤ s.ins ∧ 100 < s.ins) ∨ (0 ≤ s.ins ∧ s.ins ≤ 100 ∧ 40 < s.outs.length) ∨ (0 ≤ s.ins ∧ s.ins ≤ 100 ∧ s.outs.length ≤ 40 ∧ 3000 < 1 + s.ins + s.hints.length) ∨ (0 ≤ s.ins ∧ s.ins ≤ 100 ∧ s.outs.length ≤ 40 ∧ 1 + s.ins + s.hints.length ≤ 3000 ∧ 4000 < s.cons.length) := by omega
  clear hl hl'
  rcases cs with h1 | ⟨h1, h2⟩ | ⟨h1, h2, h3⟩ | ⟨h1, h2, h3, h4⟩ | ⟨h1, h2, h3, h4, h5⟩
  · go_enter Try.func147, Try.ntmps147
    go_wp2_with fail
    go_ret
    exact ⟨rfl, by (repeat (first | with_reducible exact Below.refl _ _ | with_reducible assumption | with_reducible refine Below.drew ?_ | with_reducible refine bdrewN ?_ _ | ((with_reducible refine balloc ?_ ?_ _); (focus (first | with_reducible exact Nat.le_refl _ | (simp; done) | omega | (simp; omega) | exact Nat.le_refl _))) | ((with_reducible refine bset ?_ ?_ _); (focus (first | with_reducible exact Nat.le_refl _ | (simp; done) | omega | (simp; omega) | exact Nat.le_refl _)))))⟩
  · go_enter Try.func147, Try.ntmps147
    go_wp2_with fail
    go_ret
    exact ⟨rfl, by (repeat (first | with_reducible exact Below.refl _ _ | with_reducible assumption | with_reducible refine Below.drew ?_ | with_reducible refine bdrewN ?_ _ | ((with_reducible refine balloc ?_ ?_ _); (focus (first | with_reducible exact Nat.le_refl _ | (simp; done) | omega | (simp; omega) | exact Nat.le_refl _))) | ((with_reducible refine bset ?_ ?_ _); (focus (first | with_reducible exact Nat.le_refl _ | (simp; done) | omega | (simp; omega) | exact Nat.le_refl _)))))⟩
  · go_enter Try.func147, Try.ntmps147
    go_wp2_with fail
    go_ret
    exact ⟨rfl, by (repeat (first | with_reducible exact Below.refl _ _ | with_reducible assumption | with_reducible refine Below.drew ?_ | with_reducible refine bdrewN ?_ _ | ((with_reducible refine balloc ?_ ?_ _); (focus (first | with_reducible exact Nat.le_refl _ | (simp; done) | omega | (simp; omega) | exact Nat.le_refl _))) | ((with_reducible refine bset ?_ ?_ _); (focus (first | with_reducible exact Nat.le_refl _ | (simp; done) | omega | (simp; omega) | exact Nat.le_refl _)))))⟩
  · go_enter Try.func147, Try.ntmps147
    go_wp2_with fail
    refine name_call fun w1 hw1 => ?_
    have b1 : Below w.heap.size w w1 := by rw [hw1]; (repeat (first | with_reducible exact Below.refl _ _ | with_reducible assumption | with_reducible refine Below.drew ?_ | with_reducible refine bdrewN ?_ _ | ((with_reducible refine balloc ?_ ?_ _); (focus (first | with_reducible exact Nat.le_refl _ | (simp; done) | omega | (simp; omega) | exact Nat.le_refl _))) | ((with_reducible refine bset ?_ ?_ _); (focus (first | with_reducible exact Nat.le_refl _ | (simp; done) | omega | (simp; omega) | exact Nat.le_refl _)))))
    have z1 : w.heap.size + 1 ≤ w1.heap.size := by rw [hw1]; simp
    have cI1 : w1.cell? ⟨w.heap.size, 0, none⟩ = some (.int .i64 s.ins) := by rw [hw1]; first | (simp; done) | go_simp
    have cO1 : w1.cell? ⟨w.heap.size, 1, none⟩ = some (.slice ao s.outs.length ko) := by rw [hw1]; first | (simp; done) | go_simp
    have cH1 : w1.cell? ⟨w.heap.size, 2, none⟩ = some (.slice ah s.hints.length kh) := by rw [hw1]; first | (simp; done) | go_simp
    have cC1 : w1.cell? ⟨w.heap.size, 3, none⟩ = some (.slice ac s.cons.length kc) := by rw [hw1]; first | (simp; done) | go_simp
    clear hw1
    refine (vars_any s ao ko ah kh ac kc _ h1 h2 hn).mono ?_; rintro e w2 ⟨rfl, f2⟩
    have b2 := b1.trans (f2.mono (by omega))
    have z2 := f2.size
    have cI2 := cell_keep f2 cI1
    have cO2 := cell_keep f2 cO1
    have cH2 := cell_keep f2 cH1
    have cC2 := cell_keep f2 cC1
    clear cI1 cO1 cH1 cC1
    go_wp2_with fail
    go_ret
    first | exact ⟨rfl, b2⟩ | exact ⟨ret_bool (by simp; omega), b2⟩
  · go_enter Try.func147, Try.ntmps147
    go_wp2_with fail
    refine name_call fun w1 hw1 => ?_
    have b1 : Below w.heap.size w w1 := by rw [hw1]; (repeat (first | with_reducible exact Below.refl _ _ | with_reducible assumption | with_reducible refine Below.drew ?_ | with_reducible refine bdrewN ?_ _ | ((with_reducible refine balloc ?_ ?_ _); (focus (first | with_reducible exact Nat.le_refl _ | (simp; done) | omega | (simp; omega) | exact Nat.le_refl _))) | ((with_reducible refine bset ?_ ?_ _); (focus (first | with_reducible exact Nat.le_refl _ | (simp; done) | omega | (simp; omega) | exact Nat.le_refl _)))))
    have z1 : w.heap.size + 1 ≤ w1.heap.size := by rw [hw1]; simp
    have cI1 : w1.cell? ⟨w.heap.size, 0, none⟩ = some (.int .i64 s.ins) := by rw [hw1]; first | (simp; done) | go_simp
    have cO1 : w1.cell? ⟨w.heap.size, 1, none⟩ = some (.slice ao s.outs.length ko) := by rw [hw1]; first | (simp; done) | go_simp
    have cH1 : w1.cell? ⟨w.heap.size, 2, none⟩ = some (.slice ah s.hints.length kh) := by rw [hw1]; first | (simp; done) | go_simp
    have cC1 : w1.cell? ⟨w.heap.size, 3, none⟩ = some (.slice ac s.cons.length kc) := by rw [hw1]; first | (simp; done) | go_simp
    clear hw1
    refine (vars_any s ao ko ah kh ac kc _ h1 h2 hn).mono ?_; rintro e w2 ⟨rfl, f2⟩
    have b2 := b1.trans (f2.mono (by omega))
    have z2 := f2.size
    have cI2 := cell_keep f2 cI1
    have cO2 := cell_keep f2 cO1
    have cH2 := cell_keep f2 cH1
    have cC2 := cell_keep f2 cC1
    clear cI1 cO1 cH1 cC1
    go_wp2_with fail
    go_ret
    first | exact ⟨rfl, b2⟩ | exact ⟨ret_bool (by simp; omega), b2⟩

set_option maxRecDepth 100000 in
set_option maxHeartbeats 1600000 in
theorem limits_yes (s : SysC) (ao ko ah kh ac kc) (w : World) (hl : limB s = true) :
    Calls Try.prog 147 #[.agg #[.int .i64 s.ins, .slice ao s.outs.length ko, .slice ah s.hints.length kh, .slice ac s.cons.length kc]] w fun e w' => e = .returned (.bool true) ∧ Below w.heap.size w w' := by
  obtain ⟨h1, h2, h3, h4, h5⟩ := limB_facts hl
  have hn : s.hints.length ≤ 1048576 := by omega
  clear hl
  go_enter Try.func147, Try.ntmps147
  go_wp2_with fail
  refine name_call fun w1 hw1 => ?_
  have b1 : Below w.heap.size w w1 := by rw [hw1]; (repeat (first | with_reducible exact Below.refl _ _ | with_reducible assumption | with_reducible refine Below.drew ?_ | with_reducible refine bdrewN ?_ _ | ((with_reducible refine balloc ?_ ?_ _); (focus (first | with_reducible exact Nat.le_refl _ | (simp; done) | omega | (simp; omega) | exact Nat.le_refl _))) | ((with_reducible refine bset ?_ ?_ _); (focus (first | with_reducible exact Nat.le_refl _ | (simp; done) | omega | (simp; omega) | exact Nat.le_refl _)))))
  have z1 : w.heap.size + 1 ≤ w1.heap.size := by rw [hw1]; simp
  have cI1 : w1.cell? ⟨w.heap.size, 0, none⟩ = some (.int .i64 s.ins) := by rw [hw1]; first | (simp; done) | go_simp
  have cO1 : w1.cell? ⟨w.heap.size, 1, none⟩ = some (.slice ao s.outs.length ko) := by rw [hw1]; first | (simp; done) | go_simp
  have cH1 : w1.cell? ⟨w.heap.size, 2, none⟩ = some (.slice ah s.hints.length kh) := by rw [hw1]; first | (simp; done) | go_simp
  have cC1 : w1.cell? ⟨w.heap.size, 3, none⟩ = some (.slice ac s.cons.length kc) := by rw [hw1]; first | (simp; done) | go_simp
  clear hw1
  refine (vars_any s ao ko ah kh ac kc _ h1 h2 hn).mono ?_; rintro e w2 ⟨rfl, f2⟩
  have b2 := b1.trans (f2.mono (by omega))
  have z2 := f2.size
  have cI2 := cell_keep f2 cI1
  have cO2 := cell_keep f2 cO1
  have cH2 := cell_keep f2 cH1
  have cC2 := cell_keep f2 cC1
  clear cI1 cO1 cH1 cC1
  go_wp2_with fail
  go_ret
  first | exact ⟨rfl, b2⟩ | exact ⟨ret_bool (by simp; omega), b2⟩

set_option maxRecDepth 100000 in
set_option maxHeartbeats 6400000 in
theorem sysOk_impl (o l h vi vo vh vc) (s : SysC) (w : World) (t : SysR o l h w vi vo vh vc s) (hw : h ≤ w.heap.size) (nh : s.hints.length ≤ 1048576) (no : s.outs.length ≤ 1048576) (nc : s.cons.length ≤ 1048576) :
    Calls Try.prog 107 #[.agg #[vi, vo, vh, vc]] w fun e w' => e = .returned (.bool (sysOk s)) ∧ Below w.heap.size w w' := by
  obtain ⟨tO, tH, tC⟩ := t.parts
  obtain ⟨ao, ko, ah, kh, ac, kc, rfl, rfl, rfl, rfl, lo, bo, lh, bh, lc, bc, fi⟩ := t.shape
  clear t
  cases hl : limB s
  · have HR := Lib.hid (sysOk_lim hl)
    go_enter Try.func107, Try.ntmps107
    go_wp2_with fail
    refine name_call fun w1 hw1 => ?_
    have b1 : Below w.heap.size w w1 := by rw [hw1]; (repeat (first | with_reducible exact Below.refl _ _ | with_reducible assumption | with_reducible refine Below.drew ?_ | with_reducible refine bdrewN ?_ _ | ((with_reducible refine balloc ?_ ?_ _); (focus (first | with_reducible exact Nat.le_refl _ | (simp; done) | omega | (simp; omega) | exact Nat.le_refl _))) | ((with_reducible refine bset ?_ ?_ _); (focus (first | with_reducible exact Nat.le_refl _ | (simp; done) | omega | (simp; omega) | exact Nat.le_refl _)))))
    have z1 : w.heap.size + 1 ≤ w1.heap.size := by rw [hw1]; simp
    have cI1 : w1.cell? ⟨w.heap.size, 0, none⟩ = some (.int .i64 s.ins) := by rw [hw1]; first | (simp; done) | go_simp
    have cO1 : w1.cell? ⟨w.heap.size, 1, none⟩ = some (.slice ao s.outs.length ko) := by rw [hw1]; first | (simp; done) | go_simp
    have cH1 : w1.cell? ⟨w.heap.size, 2, none⟩ = some (.slice ah s.hints.length kh) := by rw [hw1]; first | (simp; done) | go_simp
    have cC1 : w1.cell? ⟨w.heap.size, 3, none⟩ = some (.slice ac s.cons.length kc) := by rw [hw1]; first | (simp; done) | go_simp
    clear hw1
    refine (limits_no s ao ko ah kh ac kc _ nh no nc hl).mono ?_; rintro e w2 ⟨rfl, f2⟩
    have b2 := b1.trans (f2.mono (by omega))
    have z2 := f2.size
    have cI2 := cell_keep f2 cI1
    have cO2 := cell_keep f2 cO1
    have cH2 := cell_keep f2 cH1
    have cC2 := cell_keep f2 cC1
    clear cI1 cO1 cH1 cC1
    go_wp2_with fail
    go_ret
    exact ⟨ret_bool HR.out.symm, b2⟩
  obtain ⟨h1, h2, h3, h4, h5⟩ := limB_facts hl
  go_enter Try.func107, Try.ntmps107
  go_wp2_with fail
  refine name_call fun w1 hw1 => ?_
  have b1 : Below w.heap.size w w1 := by rw [hw1]; (repeat (first | with_reducible exact Below.refl _ _ | with_reducible assumption | with_reducible refine Below.drew ?_ | with_reducible refine bdrewN ?_ _ | ((with_reducible refine balloc ?_ ?_ _); (focus (first | with_reducible exact Nat.le_refl _ | (simp; done) | omega | (simp; omega) | exact Nat.le_refl _))) | ((with_reducible refine bset ?_ ?_ _); (focus (first | with_reducible exact Nat.le_refl _ | (simp; done) | omega | (simp; omega) | exact Nat.le_refl _)))))
  have z1 : w.heap.size + 1 ≤ w1.heap.size := by rw [hw1]; simp
  have cI1 : w1.cell? ⟨w.heap.size, 0, none⟩ = some (.int .i64 s.ins) := by rw [hw1]; first | (simp; done) | go_simp
  have cO1 : w1.cell? ⟨w.heap.size, 1, none⟩ = some (.slice ao s.outs.length ko) := by rw [hw1]; first | (simp; done) | go_simp
  have cH1 : w1.cell? ⟨w.heap.size, 2, none⟩ = some (.slice ah s.hints.length kh) := by rw [hw1]; first | (simp; done) | go_simp
  have cC1 : w1.cell? ⟨w.heap.size, 3, none⟩ = some (.slice ac s.cons.length kc) := by rw [hw1]; first | (simp; done) | go_simp
  clear hw1
  refine (limits_yes s ao ko ah kh ac kc _ hl).mono ?_; rintro e w2 ⟨rfl, f2⟩
  have b2 := b1.trans (f2.mono (by omega))
  have z2 := f2.size
  have cI2 := cell_keep f2 cI1
  have cO2 := cell_keep f2 cO1
  have cH2 := cell_keep f2 cH1
  have cC2 := cell_keep f2 cC1
  clear cI1 cO1 cH1 cC1
  go_wp2_with fail
  go_loopw [15] (fun i wr => ∃ k : Nat, k ≤ s.hints.length ∧ i = .int .i64 k ∧ Below w.heap.size w wr ∧ w.heap.size < wr.heap.size ∧ wr.cell? ⟨w.heap.size, 0, none⟩ = some (.int .i64 s.ins) ∧ wr.cell? ⟨w.heap.size, 1, none⟩ = some (.slice ao s.outs.length ko) ∧ wr.cell? ⟨w.heap.size, 2, none⟩ = some (.slice ah s.hints.length kh) ∧ wr.cell? ⟨w.heap.size, 3, none⟩ = some (.slice ac s.cons.length kc) ∧ hintsB (1 + s.ins + k) (s.hints.drop k) = hintsB (1 + s.ins) s.hints) (fun i _ => s.hints.length - (intOf i).toNat)
  case atStart => exact ⟨0, Nat.zero_le _, rfl, b2, by omega, cI2, cO2, cH2, cC2, by simp⟩
  case round =>
    clear cI2 cO2 cH2 cC2
    obtain ⟨k, hk, rfl, be, zz, cI, cO, cH, cC, hq⟩ := hrel
    have HQ := Lib.hid hq
    clear hq
    by_cases hlt : k < s.hints.length
    · obtain ⟨b, off, va, vb, rfl, l1, m1, c0, c1, c2, c3, f0, f3, ta, tb⟩ := (tH.keep be hw).at hlt
      obtain ⟨x, kx, rfl, lx, bx⟩ := ta.shape
      obtain ⟨y, ky, rfl, ly, by'⟩ := tb.shape
      have n0 : 0 ≤ 1 + s.ins + (k : Int) := by omega
      have n1 : 1 + s.ins + (k : Int) ≤ 3100 := by omega
      cases hh : hintW (1 + s.ins + k) s.hints[k]
      · have E := Lib.hid (sysOk_hints (HQ.out.symm.trans (hintsB_stop hlt hh)))
        have HH := Lib.hid hh
        clear hh HQ
        have lcI : w.heap.size < wr.heap.size := World.block_lt_of_cell? _ _ cI
        go_wp2_with fail
        refine name_call fun wp1 hwp1 => ?_
        have bp1 : Below w.heap.size w wp1 := by rw [hwp1]; (repeat (first | with_reducible exact Below.refl _ _ | with_reducible assumption | with_reducible refine Below.drew ?_ | with_reducible refine bdrewN ?_ _ | ((with_reducible refine balloc ?_ ?_ _); (focus (first | with_reducible exact Nat.le_refl _ | (simp; done) | omega | (simp; omega) | exact Nat.le_refl _))) | ((with_reducible refine bset ?_ ?_ _); (focus (first | with_reducible exact Nat.le_refl _ | (simp; done) | omega | (simp; omega) | exact Nat.le_refl _)))))
        have zp1 : wr.heap.size + 1 ≤ wp1.heap.size := by rw [hwp1]; simp
        have ep1 : Below wr.heap.size wr wp1 := by rw [hwp1]; (repeat (first | with_reducible exact Below.refl _ _ | with_reducible assumption | with_reducible refine Below.drew ?_ | with_reducible refine bdrewN ?_ _ | ((with_reducible refine balloc ?_ ?_ _); (focus (first | with_reducible exact Nat.le_refl _ | (simp; done) | omega | (simp; omega) | exact Nat.le_refl _))) | ((with_reducible refine bset ?_ ?_ _); (focus (first | with_reducible exact Nat.le_refl _ | (simp; done) | omega | (simp; omega) | exact Nat.le_refl _)))))
        have cIp1 := cell_keep ep1 cI
        have cOp1 := cell_keep ep1 cO
        have cHp1 := cell_keep ep1 cH
        have cCp1 := cell_keep ep1 cC
        have tAp1 := ta.keep ep1 (by omega)
        have tBp1 := tb.keep ep1 (by omega)
        clear hwp1 lcI cI cO cH cC ta tb
        refine (hintWithin_any o l h _ _ s.hints[k] (1 + s.ins + k) _ tAp1 tBp1 f3 (by omega)).mono ?_; rw [HH.out]; rintro e wp2 ⟨rfl, fp2⟩
        have bp2 := bp1.trans (fp2.mono (by omega))
        have zp2 := fp2.size
        have cIp2 := cell_keep fp2 cIp1
        have cOp2 := cell_keep fp2 cOp1
        have cHp2 := cell_keep fp2 cHp1
        have cCp2 := cell_keep fp2 cCp1
        have tAp2 := tAp1.keep fp2 (by omega)
        have tBp2 := tBp1.keep fp2 (by omega)
        clear cIp1 cOp1 cHp1 cCp1 tAp1 tBp1
        go_wp2_with fail
        go_ret
        exact ⟨ret_bool E.out.symm, bp2⟩
      have E := Lib.hid ((hintsB_step hlt hh).symm.trans HQ.out)
      have HH := Lib.hid hh
      clear hh HQ
      have lcI : w.heap.size < wr.heap.size := World.block_lt_of_cell? _ _ cI
      go_wp2_with fail
      refine name_call fun wq1 hwq1 => ?_
      have bq1 : Below w.heap.size w wq1 := by rw [hwq1]; (repeat (first | with_reducible exact Below.refl _ _ | with_reducible assumption | with_reducible refine Below.drew ?_ | with_reducible refine bdrewN ?_ _ | ((with_reducible refine balloc ?_ ?_ _); (focus (first | with_reducible exact Nat.le_refl _ | (simp; done) | omega | (simp; omega) | exact Nat.le_refl _))) | ((with_reducible refine bset ?_ ?_ _); (focus (first | with_reducible exact Nat.le_refl _ | (simp; done) | omega | (simp; omega) | exact Nat.le_refl _)))))
      have zq1 : wr.heap.size + 1 ≤ wq1.heap.size := by rw [hwq1]; simp
      have eq1 : Below wr.heap.size wr wq1 := by rw [hwq1]; (repeat (first | with_reducible exact Below.refl _ _ | with_reducible assumption | with_reducible refine Below.drew ?_ | with_reducible refine bdrewN ?_ _ | ((with_reducible refine balloc ?_ ?_ _); (focus (first | with_reducible exact Nat.le_refl _ | (simp; done) | omega | (simp; omega) | exact Nat.le_refl _))) | ((with_reducible refine bset ?_ ?_ _); (focus (first | with_reducible exact Nat.le_refl _ | (simp; done) | omega | (simp; omega) | exact Nat.le_refl _)))))
      have cIq1 := cell_keep eq1 cI
      have cOq1 := cell_keep eq1 cO
      have cHq1 := cell_keep eq1 cH
      have cCq1 := cell_keep eq1 cC
      have tAq1 := ta.keep eq1 (by omega)
      have tBq1 := tb.keep eq1 (by omega)
      clear hwq1 lcI cI cO cH cC ta tb
      refine (hintWithin_any o l h _ _ s.hints[k] (1 + s.ins + k) _ tAq1 tBq1 f3 (by omega)).mono ?_; rw [HH.out]; rintro e wq2 ⟨rfl, fq2⟩
      have bq2 := bq1.trans (fq2.mono (by omega))
      have zq2 := fq2.size
      have cIq2 := cell_keep fq2 cIq1
      have cOq2 := cell_keep fq2 cOq1
      have cHq2 := cell_keep fq2 cHq1
      have cCq2 := cell_keep fq2 cCq1
      have tAq2 := tAq1.keep fq2 (by omega)
      have tBq2 := tBq1.keep fq2 (by omega)
      clear cIq1 cOq1 cHq1 cCq1 tAq1 tBq1
      go_wp2_with fail
      go_roundw
      case rel => exact ⟨k + 1, by omega, by go_num, bq2, by omega, cIq2, cOq2, cHq2, cCq2, E.out⟩
      case measure => simp [intOf]; omega
    · have HB : Hid (hintsB (1 + s.ins) s.hints = true) := Lib.hid (by rw [← HQ.out, List.drop_eq_nil_of_le (by omega)]; rfl)
      clear HQ
      go_wp2_with fail
      go_loopw [32] (fun i wr => ∃ k : Nat, k ≤ s.outs.length ∧ i = .int .i64 k ∧ Below w.heap.size w wr ∧ w.heap.size < wr.heap.size ∧ wr.cell? ⟨w.heap.size, 0, none⟩ = some (.int .i64 s.ins) ∧ wr.cell? ⟨w.heap.size, 1, none⟩ = some (.slice ao s.outs.length ko) ∧ wr.cell? ⟨w.heap.size, 2, none⟩ = some (.slice ah s.hints.length kh) ∧ wr.cell? ⟨w.heap.size, 3, none⟩ = some (.slice ac s.cons.length kc) ∧ (s.outs.drop k).all (linW (varsN s)) = s.outs.all (linW (varsN s))) (fun i _ => s.outs.length - (intOf i).toNat)
      case atStart => exact ⟨0, Nat.zero_le _, rfl, be, by omega, cI, cO, cH, cC, rfl⟩
      case round =>
        clear cI cO cH cC
        obtain ⟨k, hk, rfl, be, zz, cI, cO, cH, cC, hq⟩ := hrel
        have HQ := Lib.hid hq
        clear hq
        by_cases hlt : k < s.outs.length
        · obtain ⟨b, off, va, rfl, l1, m1, c0, ta⟩ := (tO.keep be hw).at hlt
          obtain ⟨x, kx, rfl, lx, bx⟩ := ta.shape
          cases hh : linW (varsN s) s.outs[k]
          · have E := Lib.hid (sysOk_outs (HQ.out.symm.trans (all_stop hlt hh)))
            have HH : Hid (linW (1 + s.ins + s.hints.length) s.outs[k] = false) := Lib.hid hh
            clear hh HQ
            have wrz : wr.heap.size = wr.heap.size := rfl
            have lcI : w.heap.size < wr.heap.size := World.block_lt_of_cell? _ _ cI
            go_wp2_with fail
            refine name_wp fun wp21 hwp21 => ?_
            have bp21 : Below w.heap.size w wp21 := by rw [hwp21]; (repeat (first | with_reducible exact Below.refl _ _ | with_reducible assumption | with_reducible refine Below.drew ?_ | with_reducible refine bdrewN ?_ _ | ((with_reducible refine balloc ?_ ?_ _); (focus (first | with_reducible exact Nat.le_refl _ | (simp; done) | omega | (simp; omega) | exact Nat.le_refl _))) | ((with_reducible refine bset ?_ ?_ _); (focus (first | with_reducible exact Nat.le_refl _ | (simp; done) | omega | (simp; omega) | exact Nat.le_refl _)))))
            have zp21 : wr.heap.size + 1 ≤ wp21.heap.size := by rw [hwp21]; simp
            have ep21 : Below wr.heap.size wr wp21 := by rw [hwp21]; (repeat (first | with_reducible exact Below.refl _ _ | with_reducible assumption | with_reducible refine Below.drew ?_ | with_reducible refine bdrewN ?_ _ | ((with_reducible refine balloc ?_ ?_ _); (focus (first | with_reducible exact Nat.le_refl _ | (simp; done) | omega | (simp; omega) | exact Nat.le_refl _))) | ((with_reducible refine bset ?_ ?_ _); (focus (first | with_reducible exact Nat.le_refl _ | (simp; done) | omega | (simp; omega) | exact Nat.le_refl _)))))
            have cIp21 := cell_keep ep21 cI
            have cOp21 := cell_keep ep21 cO
            have cHp21 := cell_keep ep21 cH
            have cCp21 := cell_keep ep21 cC
            have cZp21 : wp21.cell? ⟨wr.heap.size, 0, none⟩ = some (.slice x s.outs[k].length kx) := by rw [hwp21]; first | (simp; done) | go_simp
            have tAp21 := ta.keep ep21 (by omega)
            clear hwp21 lcI cI cO cH cC ta
            have dp21 : Below wp21.heap.size wp21 wp21.drew := (Below.refl _ _).drew
            have zdp21 : wp21.heap.size ≤ wp21.drew.heap.size := Nat.le_refl _
            have zep21 : wp21.drew.heap.size ≤ wp21.heap.size := Nat.le_refl _
            have gI : wp21.drew.cell? ⟨w.heap.size, 0, none⟩ = some (.int .i64 s.ins) := cell_keep dp21 cIp21
            have gO : wp21.drew.cell? ⟨w.heap.size, 1, none⟩ = some (.slice (some ⟨b, off, none⟩) s.outs.length ko) := cell_keep dp21 cOp21
            have gH : wp21.drew.cell? ⟨w.heap.size, 2, none⟩ = some (.slice ah s.hints.length kh) := cell_keep dp21 cHp21
            have gC : wp21.drew.cell? ⟨w.heap.size, 3, none⟩ = some (.slice ac s.cons.length kc) := cell_keep dp21 cCp21
            have gZ : wp21.drew.cell? ⟨wr.heap.size, 0, none⟩ = some (.slice x s.outs[k].length kx) := cell_keep dp21 cZp21
            have uA := tAp21.keep dp21 (by omega)
            go_region_held3 (fun w' => w'.cell? ⟨w.heap.size, 0, none⟩ = some (.int .i64 s.ins) ∧ w'.cell? ⟨w.heap.size, 1, none⟩ = some (.slice (some ⟨b, off, none⟩) s.outs.length ko) ∧ w'.cell? ⟨w.heap.size, 2, none⟩ = some (.slice ah s.hints.length kh) ∧ w'.cell? ⟨w.heap.size, 3, none⟩ = some (.slice ac s.cons.length kc) ∧ w'.cell? ⟨wr.heap.size, 0, none⟩ = some (.slice x s.outs[k].length kx)) (first | exact ⟨gI, gO, gH, gC, gZ⟩ | exact ⟨cell_keep j1 gI, cell_keep j1 gO, cell_keep j1 gH, cell_keep j1 gC, cell_keep j1 gZ⟩ | exact ⟨cell_keep j2 (cell_keep j1 gI), cell_keep j2 (cell_keep j1 gO), cell_keep j2 (cell_keep j1 gH), cell_keep j2 (cell_keep j1 gC), cell_keep j2 (cell_keep j1 gZ)⟩)
              (first
                | (go_at_call 119; refine (vars_any s _ _ _ _ _ _ wp21.drew h1 h2 nh).mono ?_; rintro e v1 ⟨rfl, j1⟩)
                | (go_at_call 118; refine (withinI_any o l h _ s.outs[k] (1 + s.ins + s.hints.length) _ (uA.keep j1 (by omega)) (Nat.le_trans (show h ≤ wp21.drew.heap.size by omega) j1.size)).mono ?_; rw [HH.out]; rintro e v2 ⟨rfl, j2⟩))
            have bz : Below w.heap.size w v2 := ((bp21.trans (dp21.mono (by omega))).trans (j1.mono (by omega))).trans (j2.mono (by have := j1.size; omega))
            have s1 := j1.size
            have s2 := j2.size
            have kI := cell_keep j2 (cell_keep j1 gI)
            have kO := cell_keep j2 (cell_keep j1 gO)
            have kH := cell_keep j2 (cell_keep j1 gH)
            have kC := cell_keep j2 (cell_keep j1 gC)
            clear gI gO gH gC gZ uA
            go_wp2_with fail
            go_ret
            exact ⟨ret_bool E.out.symm, bz⟩
          have E := Lib.hid ((all_step hlt hh).symm.trans HQ.out)
          have HH : Hid (linW (1 + s.ins + s.hints.length) s.outs[k] = true) := Lib.hid hh
          clear hh HQ
          have wrz : wr.heap.size = wr.heap.size := rfl
          have lcI : w.heap.size < wr.heap.size := World.block_lt_of_cell? _ _ cI
          go_wp2_with fail
          refine name_wp fun wq21 hwq21 => ?_
          have bq21 : Below w.heap.size w wq21 := by rw [hwq21]; (repeat (first | with_reducible exact Below.refl _ _ | with_reducible assumption | with_reducible refine Below.drew ?_ | with_reducible refine bdrewN ?_ _ | ((with_reducible refine balloc ?_ ?_ _); (focus (first | with_reducible exact Nat.le_refl _ | (simp; done) | omega | (simp; omega) | exact Nat.le_refl _))) | ((with_reducible refine bset ?_ ?_ _); (focus (first | with_reducible exact Nat.le_refl _ | (simp; done) | omega | (simp; omega) | exact Nat.le_refl _)))))
          have zq21 : wr.heap.size + 1 ≤ wq21.heap.size := by rw [hwq21]; simp
          have eq21 : Below wr.heap.size wr wq21 := by rw [hwq21]; (repeat (first | with_reducible exact Below.refl _ _ | with_reducible assumption | with_reducible refine Below.drew ?_ | with_reducible refine bdrewN ?_ _ | ((with_reducible refine balloc ?_ ?_ _); (focus (first | with_reducible exact Nat.le_refl _ | (simp; done) | omega | (simp; omega) | exact Nat.le_refl _))) | ((with_reducible refine bset ?_ ?_ _); (focus (first | with_reducible exact Nat.le_refl _ | (simp; done) | omega | (simp; omega) | exact Nat.le_refl _)))))
          have cIq21 := cell_keep eq21 cI
          have cOq21 := cell_keep eq21 cO
          have cHq21 := cell_keep eq21 cH
          have cCq21 := cell_keep eq21 cC
          have cZq21 : wq21.cell? ⟨wr.heap.size, 0, none⟩ = some (.slice x s.outs[k].length kx) := by rw [hwq21]; first | (simp; done) | go_simp
          have tAq21 := ta.keep eq21 (by omega)
          clear hwq21 lcI cI cO cH cC ta
          have dq21 : Below wq21.heap.size wq21 wq21.drew := (Below.refl _ _).drew
          have zdq21 : wq21.heap.size ≤ wq21.drew.heap.size := Nat.le_refl _
          have zeq21 : wq21.drew.heap.size ≤ wq21.heap.size := Nat.le_refl _
          have gI : wq21.drew.cell? ⟨w.heap.size, 0, none⟩ = some (.int .i64 s.ins) := cell_keep dq21 cIq21
          have gO : wq21.drew.cell? ⟨w.heap.size, 1, none⟩ = some (.slice (some ⟨b, off, none⟩) s.outs.length ko) := cell_keep dq21 cOq21
          have gH : wq21.drew.cell? ⟨w.heap.size, 2, none⟩ = some (.slice ah s.hints.length kh) := cell_keep dq21 cHq21
          have gC : wq21.drew.cell? ⟨w.heap.size, 3, none⟩ = some (.slice ac s.cons.length kc) := cell_keep dq21 cCq21
          have gZ : wq21.drew.cell? ⟨wr.heap.size, 0, none⟩ = some (.slice x s.outs[k].length kx) := cell_keep dq21 cZq21
          have uA := tAq21.keep dq21 (by omega)
          go_region_held3 (fun w' => w'.cell? ⟨w.heap.size, 0, none⟩ = some (.int .i64 s.ins) ∧ w'.cell? ⟨w.heap.size, 1, none⟩ = some (.slice (some ⟨b, off, none⟩) s.outs.length ko) ∧ w'.cell? ⟨w.heap.size, 2, none⟩ = some (.slice ah s.hints.length kh) ∧ w'.cell? ⟨w.heap.size, 3, none⟩ = some (.slice ac s.cons.length kc) ∧ w'.cell? ⟨wr.heap.size, 0, none⟩ = some (.slice x s.outs[k].length kx)) (first | exact ⟨gI, gO, gH, gC, gZ⟩ | exact ⟨cell_keep j1 gI, cell_keep j1 gO, cell_keep j1 gH, cell_keep j1 gC, cell_keep j1 gZ⟩ | exact ⟨cell_keep j2 (cell_keep j1 gI), cell_keep j2 (cell_keep j1 gO), cell_keep j2 (cell_keep j1 gH), cell_keep j2 (cell_keep j1 gC), cell_keep j2 (cell_keep j1 gZ)⟩)
            (first
              | (go_at_call 119; refine (vars_any s _ _ _ _ _ _ wq21.drew h1 h2 nh).mono ?_; rintro e v1 ⟨rfl, j1⟩)
              | (go_at_call 118; refine (withinI_any o l h _ s.outs[k] (1 + s.ins + s.hints.length) _ (uA.keep j1 (by omega)) (Nat.le_trans (show h ≤ wq21.drew.heap.size by omega) j1.size)).mono ?_; rw [HH.out]; rintro e v2 ⟨rfl, j2⟩))
          have bz : Below w.heap.size w v2 := ((bq21.trans (dq21.mono (by omega))).trans (j1.mono (by omega))).trans (j2.mono (by have := j1.size; omega))
          have s1 := j1.size
          have s2 := j2.size
          have kI := cell_keep j2 (cell_keep j1 gI)
          have kO := cell_keep j2 (cell_keep j1 gO)
          have kH := cell_keep j2 (cell_keep j1 gH)
          have kC := cell_keep j2 (cell_keep j1 gC)
          clear gI gO gH gC gZ uA
          go_wp2_with fail
          go_roundw
          case rel => exact ⟨k + 1, by omega, by go_num, bz, by omega, kI, kO, kH, kC, E.out⟩
          case measure => simp [intOf]; omega
        · have HO : Hid (outsB (varsN s) s.outs = true) := Lib.hid (HQ.out.symm.trans (by rw [List.drop_eq_nil_of_le (by omega)]; rfl))
          clear HQ
          go_wp2_with fail
          go_loopw [45] (fun i wr => ∃ k : Nat, k ≤ s.cons.length ∧ i = .int .i64 k ∧ Below w.heap.size w wr ∧ w.heap.size < wr.heap.size ∧ wr.cell? ⟨w.heap.size, 0, none⟩ = some (.int .i64 s.ins) ∧ wr.cell? ⟨w.heap.size, 1, none⟩ = some (.slice ao s.outs.length ko) ∧ wr.cell? ⟨w.heap.size, 2, none⟩ = some (.slice ah s.hints.length kh) ∧ wr.cell? ⟨w.heap.size, 3, none⟩ = some (.slice ac s.cons.length kc) ∧ (s.cons.drop k).all (conW (varsN s)) = s.cons.all (conW (varsN s))) (fun i _ => s.cons.length - (intOf i).toNat)
          case atStart => exact ⟨0, Nat.zero_le _, rfl, be, by omega, cI, cO, cH, cC, rfl⟩
          case round =>
            clear cI cO cH cC
            obtain ⟨k, hk, rfl, be, zz, cI, cO, cH, cC, hq⟩ := hrel
            have HQ := Lib.hid hq
            clear hq
            by_cases hlt : k < s.cons.length
            · obtain ⟨b, off, va, vb, vc, rfl, l1, m1, c0, c1, c2, ta, tb, tc⟩ := (tC.keep be hw).at hlt
              obtain ⟨x, kx, rfl, lx, bx⟩ := ta.shape
              obtain ⟨y, ky, rfl, ly, by'⟩ := tb.shape
              obtain ⟨z, kz, rfl, lz, bz⟩ := tc.shape
              cases hh : conW (varsN s) s.cons[k]
              · have E := Lib.hid (sysOk_cons (HQ.out.symm.trans (all_stop hlt hh)))
                have HH : Hid (conW (1 + s.ins + s.hints.length) s.cons[k] = false) := Lib.hid hh
                clear hh HQ
                have wrz : wr.heap.size = wr.heap.size := rfl
                have lcI : w.heap.size < wr.heap.size := World.block_lt_of_cell? _ _ cI
                go_wp2_with fail
                refine name_wp fun wp31 hwp31 => ?_
                have bp31 : Below w.heap.size w wp31 := by rw [hwp31]; (repeat (first | with_reducible exact Below.refl _ _ | with_reducible assumption | with_reducible refine Below.drew ?_ | with_reducible refine bdrewN ?_ _ | ((with_reducible refine balloc ?_ ?_ _); (focus (first | with_reducible exact Nat.le_refl _ | (simp; done) | omega | (simp; omega) | exact Nat.le_refl _))) | ((with_reducible refine bset ?_ ?_ _); (focus (first | with_reducible exact Nat.le_refl _ | (simp; done) | omega | (simp; omega) | exact Nat.le_refl _)))))
                have zp31 : wr.heap.size + 1 ≤ wp31.heap.size := by rw [hwp31]; simp
                have ep31 : Below wr.heap.size wr wp31 := by rw [hwp31]; (repeat (first | with_reducible exact Below.refl _ _ | with_reducible assumption | with_reducible refine Below.drew ?_ | with_reducible refine bdrewN ?_ _ | ((with_reducible refine balloc ?_ ?_ _); (focus (first | with_reducible exact Nat.le_refl _ | (simp; done) | omega | (simp; omega) | exact Nat.le_refl _))) | ((with_reducible refine bset ?_ ?_ _); (focus (first | with_reducible exact Nat.le_refl _ | (simp; done) | omega | (simp; omega) | exact Nat.le_refl _)))))
                have cIp31 := cell_keep ep31 cI
                have cOp31 := cell_keep ep31 cO
                have cHp31 := cell_keep ep31 cH
                have cCp31 := cell_keep ep31 cC
                have cZ0p31 : wp31.cell? ⟨wr.heap.size, 0, none⟩ = some (.slice x s.cons[k].a.length kx) := by rw [hwp31]; first | (simp; done) | go_simp
                have cZ1p31 : wp31.cell? ⟨wr.heap.size, 1, none⟩ = some (.slice y s.cons[k].b.length ky) := by rw [hwp31]; first | (simp; done) | go_simp
                have cZ2p31 : wp31.cell? ⟨wr.heap.size, 2, none⟩ = some (.slice z s.cons[k].c.length kz) := by rw [hwp31]; first | (simp; done) | go_simp
                have tAp31 := ta.keep ep31 (by omega)
                have tBp31 := tb.keep ep31 (by omega)
                have tDp31 := tc.keep ep31 (by omega)
                clear hwp31 lcI cI cO cH cC ta tb tc
                have dp31 : Below wp31.heap.size wp31 wp31.drew := (Below.refl _ _).drew
                have zdp31 : wp31.heap.size ≤ wp31.drew.heap.size := Nat.le_refl _
                have zep31 : wp31.drew.heap.size ≤ wp31.heap.size := Nat.le_refl _
                have gI : wp31.drew.cell? ⟨w.heap.size, 0, none⟩ = some (.int .i64 s.ins) := cell_keep dp31 cIp31
                have gO : wp31.drew.cell? ⟨w.heap.size, 1, none⟩ = some (.slice ao s.outs.length ko) := cell_keep dp31 cOp31
                have gH : wp31.drew.cell? ⟨w.heap.size, 2, none⟩ = some (.slice ah s.hints.length kh) := cell_keep dp31 cHp31
                have gC : wp31.drew.cell? ⟨w.heap.size, 3, none⟩ = some (.slice (some ⟨b, off, none⟩) s.cons.length kc) := cell_keep dp31 cCp31
                have gZ0 : wp31.drew.cell? ⟨wr.heap.size, 0, none⟩ = some (.slice x s.cons[k].a.length kx) := cell_keep dp31 cZ0p31
                have gZ1 : wp31.drew.cell? ⟨wr.heap.size, 1, none⟩ = some (.slice y s.cons[k].b.length ky) := cell_keep dp31 cZ1p31
                have gZ2 : wp31.drew.cell? ⟨wr.heap.size, 2, none⟩ = some (.slice z s.cons[k].c.length kz) := cell_keep dp31 cZ2p31
                have uA := tAp31.keep dp31 (by omega)
                have uB := tBp31.keep dp31 (by omega)
                have uD := tDp31.keep dp31 (by omega)
                go_region_held3 (fun w' => w'.cell? ⟨w.heap.size, 0, none⟩ = some (.int .i64 s.ins) ∧ w'.cell? ⟨w.heap.size, 1, none⟩ = some (.slice ao s.outs.length ko) ∧ w'.cell? ⟨w.heap.size, 2, none⟩ = some (.slice ah s.hints.length kh) ∧ w'.cell? ⟨w.heap.size, 3, none⟩ = some (.slice (some ⟨b, off, none⟩) s.cons.length kc) ∧ w'.cell? ⟨wr.heap.size, 0, none⟩ = some (.slice x s.cons[k].a.length kx) ∧ w'.cell? ⟨wr.heap.size, 1, none⟩ = some (.slice y s.cons[k].b.length ky) ∧ w'.cell? ⟨wr.heap.size, 2, none⟩ = some (.slice z s.cons[k].c.length kz)) (first | exact ⟨gI, gO, gH, gC, gZ0, gZ1, gZ2⟩ | exact ⟨cell_keep j1 gI, cell_keep j1 gO, cell_keep j1 gH, cell_keep j1 gC, cell_keep j1 gZ0, cell_keep j1 gZ1, cell_keep j1 gZ2⟩ | exact ⟨cell_keep j2 (cell_keep j1 gI), cell_keep j2 (cell_keep j1 gO), cell_keep j2 (cell_keep j1 gH), cell_keep j2 (cell_keep j1 gC), cell_keep j2 (cell_keep j1 gZ0), cell_keep j2 (cell_keep j1 gZ1), cell_keep j2 (cell_keep j1 gZ2)⟩)
                  (first
                    | (go_at_call 119; refine (vars_any s _ _ _ _ _ _ wp31.drew h1 h2 nh).mono ?_; rintro e v1 ⟨rfl, j1⟩)
                    | (go_at_call 149; refine (conWithin_any o l h _ _ _ s.cons[k] (1 + s.ins + s.hints.length) _ (uA.keep j1 (by omega)) (uB.keep j1 (by omega)) (uD.keep j1 (by omega)) (Nat.le_trans (show h ≤ wp31.drew.heap.size by omega) j1.size)).mono ?_; rw [HH.out]; rintro e v2 ⟨rfl, j2⟩))
                have bz : Below w.heap.size w v2 := ((bp31.trans (dp31.mono (by omega))).trans (j1.mono (by omega))).trans (j2.mono (by have := j1.size; omega))
                have s1 := j1.size
                have s2 := j2.size
                have kI := cell_keep j2 (cell_keep j1 gI)
                have kO := cell_keep j2 (cell_keep j1 gO)
                have kH := cell_keep j2 (cell_keep j1 gH)
                have kC := cell_keep j2 (cell_keep j1 gC)
                clear gI gO gH gC gZ0 gZ1 gZ2 uA uB uD
                go_wp2_with fail
                go_ret
                exact ⟨ret_bool E.out.symm, bz⟩
              have E := Lib.hid ((all_step hlt hh).symm.trans HQ.out)
              have HH : Hid (conW (1 + s.ins + s.hints.length) s.cons[k] = true) := Lib.hid hh
              clear hh HQ
              have wrz : wr.heap.size = wr.heap.size := rfl
              have lcI : w.heap.size < wr.heap.size := World.block_lt_of_cell? _ _ cI
              go_wp2_with fail
              refine name_wp fun wq31 hwq31 => ?_
              have bq31 : Below w.heap.size w wq31 := by rw [hwq31]; (repeat (first | with_reducible exact Below.refl _ _ | with_reducible assumption | with_reducible refine Below.drew ?_ | with_reducible refine bdrewN ?_ _ | ((with_reducible refine balloc ?_ ?_ _); (focus (first | with_reducible exact Nat.le_refl _ | (simp; done) | omega | (simp; omega) | exact Nat.le_refl _))) | ((with_reducible refine bset ?_ ?_ _); (focus (first | with_reducible exact Nat.le_refl _ | (simp; done) | omega | (simp; omega) | exact Nat.le_refl _)))))
              have zq31 : wr.heap.size + 1 ≤ wq31.heap.size := by rw [hwq31]; simp
              have eq31 : Below wr.heap.size wr wq31 := by rw [hwq31]; (repeat (first | with_reducible exact Below.refl _ _ | with_reducible assumption | with_reducible refine Below.drew ?_ | with_reducible refine bdrewN ?_ _ | ((with_reducible refine balloc ?_ ?_ _); (focus (first | with_reducible exact Nat.le_refl _ | (simp; done) | omega | (simp; omega) | exact Nat.le_refl _))) | ((with_reducible refine bset ?_ ?_ _); (focus (first | with_reducible exact Nat.le_refl _ | (simp; done) | omega | (simp; omega) | exact Nat.le_refl _)))))
              have cIq31 := cell_keep eq31 cI
              have cOq31 := cell_keep eq31 cO
              have cHq31 := cell_keep eq31 cH
              have cCq31 := cell_keep eq31 cC
              have cZ0q31 : wq31.cell? ⟨wr.heap.size, 0, none⟩ = some (.slice x s.cons[k].a.length kx) := by rw [hwq31]; first | (simp; done) | go_simp
              have cZ1q31 : wq31.cell? ⟨wr.heap.size, 1, none⟩ = some (.slice y s.cons[k].b.length ky) := by rw [hwq31]; first | (simp; done) | go_simp
              have cZ2q31 : wq31.cell? ⟨wr.heap.size, 2, none⟩ = some (.slice z s.cons[k].c.length kz) := by rw [hwq31]; first | (simp; done) | go_simp
              have tAq31 := ta.keep eq31 (by omega)
              have tBq31 := tb.keep eq31 (by omega)
              have tDq31 := tc.keep eq31 (by omega)
              clear hwq31 lcI cI cO cH cC ta tb tc
              have dq31 : Below wq31.heap.size wq31 wq31.drew := (Below.refl _ _).drew
              have zdq31 : wq31.heap.size ≤ wq31.drew.heap.size := Nat.le_refl _
              have zeq31 : wq31.drew.heap.size ≤ wq31.heap.size := Nat.le_refl _
              have gI : wq31.drew.cell? ⟨w.heap.size, 0, none⟩ = some (.int .i64 s.ins) := cell_keep dq31 cIq31
              have gO : wq31.drew.cell? ⟨w.heap.size, 1, none⟩ = some (.slice ao s.outs.length ko) := cell_keep dq31 cOq31
              have gH : wq31.drew.cell? ⟨w.heap.size, 2, none⟩ = some (.slice ah s.hints.length kh) := cell_keep dq31 cHq31
              have gC : wq31.drew.cell? ⟨w.heap.size, 3, none⟩ = some (.slice (some ⟨b, off, none⟩) s.cons.length kc) := cell_keep dq31 cCq31
              have gZ0 : wq31.drew.cell? ⟨wr.heap.size, 0, none⟩ = some (.slice x s.cons[k].a.length kx) := cell_keep dq31 cZ0q31
              have gZ1 : wq31.drew.cell? ⟨wr.heap.size, 1, none⟩ = some (.slice y s.cons[k].b.length ky) := cell_keep dq31 cZ1q31
              have gZ2 : wq31.drew.cell? ⟨wr.heap.size, 2, none⟩ = some (.slice z s.cons[k].c.length kz) := cell_keep dq31 cZ2q31
              have uA := tAq31.keep dq31 (by omega)
              have uB := tBq31.keep dq31 (by omega)
              have uD := tDq31.keep dq31 (by omega)
              go_region_held3 (fun w' => w'.cell? ⟨w.heap.size, 0, none⟩ = some (.int .i64 s.ins) ∧ w'.cell? ⟨w.heap.size, 1, none⟩ = some (.slice ao s.outs.length ko) ∧ w'.cell? ⟨w.heap.size, 2, none⟩ = some (.slice ah s.hints.length kh) ∧ w'.cell? ⟨w.heap.size, 3, none⟩ = some (.slice (some ⟨b, off, none⟩) s.cons.length kc) ∧ w'.cell? ⟨wr.heap.size, 0, none⟩ = some (.slice x s.cons[k].a.length kx) ∧ w'.cell? ⟨wr.heap.size, 1, none⟩ = some (.slice y s.cons[k].b.length ky) ∧ w'.cell? ⟨wr.heap.size, 2, none⟩ = some (.slice z s.cons[k].c.length kz)) (first | exact ⟨gI, gO, gH, gC, gZ0, gZ1, gZ2⟩ | exact ⟨cell_keep j1 gI, cell_keep j1 gO, cell_keep j1 gH, cell_keep j1 gC, cell_keep j1 gZ0, cell_keep j1 gZ1, cell_keep j1 gZ2⟩ | exact ⟨cell_keep j2 (cell_keep j1 gI), cell_keep j2 (cell_keep j1 gO), cell_keep j2 (cell_keep j1 gH), cell_keep j2 (cell_keep j1 gC), cell_keep j2 (cell_keep j1 gZ0), cell_keep j2 (cell_keep j1 gZ1), cell_keep j2 (cell_keep j1 gZ2)⟩)
                (first
                  | (go_at_call 119; refine (vars_any s _ _ _ _ _ _ wq31.drew h1 h2 nh).mono ?_; rintro e v1 ⟨rfl, j1⟩)
                  | (go_at_call 149; refine (conWithin_any o l h _ _ _ s.cons[k] (1 + s.ins + s.hints.length) _ (uA.keep j1 (by omega)) (uB.keep j1 (by omega)) (uD.keep j1 (by omega)) (Nat.le_trans (show h ≤ wq31.drew.heap.size by omega) j1.size)).mono ?_; rw [HH.out]; rintro e v2 ⟨rfl, j2⟩))
              have bz : Below w.heap.size w v2 := ((bq31.trans (dq31.mono (by omega))).trans (j1.mono (by omega))).trans (j2.mono (by have := j1.size; omega))
              have s1 := j1.size
              have s2 := j2.size
              have kI := cell_keep j2 (cell_keep j1 gI)
              have kO := cell_keep j2 (cell_keep j1 gO)
              have kH := cell_keep j2 (cell_keep j1 gH)
              have kC := cell_keep j2 (cell_keep j1 gC)
              clear gI gO gH gC gZ0 gZ1 gZ2 uA uB uD
              go_wp2_with fail
              go_roundw
              case rel => exact ⟨k + 1, by omega, by go_num, bz, by omega, kI, kO, kH, kC, E.out⟩
              case measure => simp [intOf]; omega
            · have HC : Hid (consB (varsN s) s.cons = true) := Lib.hid (HQ.out.symm.trans (by rw [List.drop_eq_nil_of_le (by omega)]; rfl))
              clear HQ
              have HR := Lib.hid (sysOk_yes hl HB.out HO.out HC.out)
              go_wp2_with fail
              go_ret
              exact ⟨ret_bool HR.out.symm, be⟩
theorem sysOk_impl_yes (o l h vi vo vh vc) (s : SysC) (w : World) (t : SysR o l h w vi vo vh vc s) (hw : h ≤ w.heap.size) (nh : s.hints.length ≤ 1048576) (no : s.outs.length ≤ 1048576) (nc : s.cons.length ≤ 1048576) (hk : sysOk s = true) :
    Calls Try.prog 107 #[.agg #[vi, vo, vh, vc]] w fun e w' => e = .returned (.bool true) ∧ Below w.heap.size w w' := by
  have := sysOk_impl o l h vi vo vh vc s w t hw nh no nc
  rw [hk] at this; exact this
theorem sysOk_impl_no (o l h vi vo vh vc) (s : SysC) (w : World) (t : SysR o l h w vi vo vh vc s) (hw : h ≤ w.heap.size) (nh : s.hints.length ≤ 1048576) (no : s.outs.length ≤ 1048576) (nc : s.cons.length ≤ 1048576) (hk : sysOk s = false) :
    Calls Try.prog 107 #[.agg #[vi, vo, vh, vc]] w fun e w' => e = .returned (.bool false) ∧ Below w.heap.size w w' := by
  have := sysOk_impl o l h vi vo vh vc s w t hw nh no nc
  rw [hk] at this; exact this
end Go.Proofs.Yteekpdlkdpkegaa.L
