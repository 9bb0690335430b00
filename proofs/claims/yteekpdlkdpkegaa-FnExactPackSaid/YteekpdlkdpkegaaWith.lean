/- Valid hints and constraints: the program's functions. -/
import Derived.Test.YteekpdlkdpkegaaValue
import Derived.Test.YteekpdlkdpkegaaSysR
namespace Go.Proofs.Yteekpdlkdpkegaa.L
open Go.RowKit Go.Proofs.Yteekpdlkdpkegaa.S
set_option linter.unusedVariables false
set_option linter.unusedSimpArgs false

/-- Valid, and of the variables below n alone. -/
def linW (n : Int) (ts : List T) : Bool := linOk ts && decide (∀ t ∈ ts, t.1 < n)
def conW (n : Int) (c : ConC) : Bool := linW n c.a && (linW n c.b && linW n c.c)
/-- The numbers of a hint are right. -/
def kindOk (h : HintC) : Bool := decide ((h.kind = 0 ∨ h.kind = 3) ∧ h.k = 0 ∨ h.b.length = 0 ∧ (h.kind = 1 ∧ 0 ≤ h.k ∧ h.k ≤ 30 ∨ h.kind = 2 ∧ h.k = 0))
def hintW (n : Int) (h : HintC) : Bool := linW n h.a && (linW n h.b && kindOk h)
theorem linW_no {n : Int} {ts : List T} (h : linOk ts = false) : linW n ts = false := by simp [linW, h]
theorem linW_nil (n : Int) : linW n [] = true := by simp [linW, linOk, okFrom]
theorem linW_last {ts : List T} (h : linOk ts = true) {x y n : Int} (hl : ts[ts.length - 1]? = some (x, y)) : linW n ts = decide (x < n) := by
  have hg : ts.getLast? = some (x, y) := by rw [List.getLast?_eq_getElem?]; exact hl
  have hle := okFrom_last h hg
  unfold linW
  rw [h, Bool.true_and, decide_eq_decide]
  refine ⟨fun hh => hh (x, y) (List.mem_of_getLast? hg), fun hx t ht => ?_⟩
  have := hle t ht
  simp only at this
  omega
theorem linW_within {n : Nat} {ts : List T} : linW n ts = (linOk ts && within n ts) := rfl

set_option maxRecDepth 100000 in
set_option maxHeartbeats 1600000 in
theorem withinI_any (o l h va ts) (n : Int) (w : World) (t : Terms o l h w va ts) (hw : h ≤ w.heap.size) :
    Calls Try.prog 118 #[.agg #[va], .int .i64 n] w fun e w' => e = .returned (.bool (linW n ts)) ∧ Below w.heap.size w w' := by
  obtain ⟨a, ca, rfl, la, ba⟩ := t.shape
  cases hk : linOk ts
  · have HR := Lib.hid (linW_no (n := n) hk)
    go_enter Try.func118, Try.ntmps118
    go_wp2_with fail
    refine name_call fun w1 hw1 => ?_
    have b1 : Below w.heap.size w w1 := by rw [hw1]; (repeat (first | with_reducible exact Below.refl _ _ | with_reducible assumption | with_reducible refine Below.drew ?_ | with_reducible refine bdrewN ?_ _ | ((with_reducible refine balloc ?_ ?_ _); (focus (first | with_reducible exact Nat.le_refl _ | (simp; done) | omega | (simp; omega) | exact Nat.le_refl _))) | ((with_reducible refine bset ?_ ?_ _); (focus (first | with_reducible exact Nat.le_refl _ | (simp; done) | omega | (simp; omega) | exact Nat.le_refl _)))))
    have z1 := b1.size
    clear hw1
    refine (linOk_impl_no o l h _ ts w1 (t.keep b1 hw) (by omega) hk).mono ?_; rintro e w2 ⟨rfl, f2⟩
    have b2 := b1.trans (f2.mono (by omega))
    go_wp2_with fail
    go_ret
    exact ⟨ret_bool HR.out.symm, b2⟩
  have nl := linOk_length hk
  by_cases h0 : ts.length = 0
  · obtain rfl : ts = [] := List.eq_nil_of_length_eq_zero h0
    have HR := Lib.hid (linW_nil n)
    clear h0
    go_enter Try.func118, Try.ntmps118
    go_wp2_with fail
    refine name_call fun w1 hw1 => ?_
    have b1 : Below w.heap.size w w1 := by rw [hw1]; (repeat (first | with_reducible exact Below.refl _ _ | with_reducible assumption | with_reducible refine Below.drew ?_ | with_reducible refine bdrewN ?_ _ | ((with_reducible refine balloc ?_ ?_ _); (focus (first | with_reducible exact Nat.le_refl _ | (simp; done) | omega | (simp; omega) | exact Nat.le_refl _))) | ((with_reducible refine bset ?_ ?_ _); (focus (first | with_reducible exact Nat.le_refl _ | (simp; done) | omega | (simp; omega) | exact Nat.le_refl _)))))
    have z1 : w.heap.size < w1.heap.size := by rw [hw1]; simp
    have cA : w1.cell? ⟨w.heap.size, 0, none⟩ = some (.slice a 0 ca) := by rw [hw1]; first | (simp; done) | go_simp
    clear hw1
    refine (linOk_impl_yes o l h _ [] w1 (t.keep b1 hw) (by omega) hk).mono ?_; rintro e w2 ⟨rfl, f2⟩
    have b2 := b1.trans (f2.mono (by omega))
    have cA2 := cell_keep f2 cA
    have z2 := f2.size
    clear cA
    go_wp2_with fail
    go_ret
    exact ⟨ret_bool HR.out.symm, b2⟩
  · obtain ⟨b, off, x, y, rfl, l1', m1, c1, d1, e1, fx, fy⟩ := t.at (k := ts.length - 1) (by omega)
    have HR := Lib.hid (linW_last hk (n := n) e1)
    obtain ⟨j, hj⟩ : ∃ j : Nat, j = ts.length - 1 := ⟨_, rfl⟩
    rw [← hj] at c1
    have hb0 : ((ts.length : Int) == 0) = false := beq_eq_false_iff_ne.2 (by omega)
    have s1 : IntKind.i64.wrap ((ts.length : Int) - 1) = (j : Int) := by rw [IntWalk.i64_in _ (by omega)]; omega
    have s1' : (ts.length : Int) - 1 = (j : Int) := by omega
    have s2 : (j : Int) < (ts.length : Int) := by omega
    have s3 : j < ts.length := by omega
    have hbs : b < w.heap.size := World.block_lt_of_cell? w _ c1
    have nl1 : 1 ≤ ts.length := by omega
    clear hj e1 d1 h0
    go_enter Try.func118, Try.ntmps118
    go_wp2_with fail
    refine name_call fun w1 hw1 => ?_
    have b1 : Below w.heap.size w w1 := by rw [hw1]; (repeat (first | with_reducible exact Below.refl _ _ | with_reducible assumption | with_reducible refine Below.drew ?_ | with_reducible refine bdrewN ?_ _ | ((with_reducible refine balloc ?_ ?_ _); (focus (first | with_reducible exact Nat.le_refl _ | (simp; done) | omega | (simp; omega) | exact Nat.le_refl _))) | ((with_reducible refine bset ?_ ?_ _); (focus (first | with_reducible exact Nat.le_refl _ | (simp; done) | omega | (simp; omega) | exact Nat.le_refl _)))))
    have z1 : w.heap.size < w1.heap.size := by rw [hw1]; simp
    have cA : w1.cell? ⟨w.heap.size, 0, none⟩ = some (.slice (some ⟨b, off, none⟩) ts.length ca) := by rw [hw1]; first | (simp; done) | go_simp
    have cB := cell_keep b1 c1
    clear hw1
    refine (linOk_impl_yes o l h _ ts w1 (t.keep b1 hw) (by omega) hk).mono ?_; rintro e w2 ⟨rfl, f2⟩
    have b2 := b1.trans (f2.mono (by omega))
    have cA2 := cell_keep f2 cA
    have cB2 := cell_keep f2 cB
    have z2 := f2.size
    have hb2 : b < w2.heap.size := by omega
    clear cA cB c1
    go_wp2_with fail
    go_ret
    exact ⟨ret_bool HR.out.symm, b2⟩
theorem withinI_yes (o l h va ts) (n : Int) (w : World) (t : Terms o l h w va ts) (hw : h ≤ w.heap.size) (hk : linW n ts = true) :
    Calls Try.prog 118 #[.agg #[va], .int .i64 n] w fun e w' => e = .returned (.bool true) ∧ Below w.heap.size w w' := by
  have := withinI_any o l h va ts n w t hw
  rw [hk] at this; exact this
theorem withinI_no (o l h va ts) (n : Int) (w : World) (t : Terms o l h w va ts) (hw : h ≤ w.heap.size) (hk : linW n ts = false) :
    Calls Try.prog 118 #[.agg #[va], .int .i64 n] w fun e w' => e = .returned (.bool false) ∧ Below w.heap.size w w' := by
  have := withinI_any o l h va ts n w t hw
  rw [hk] at this; exact this

set_option maxRecDepth 100000 in
set_option maxHeartbeats 1600000 in
theorem conWithin_any (o l h va vb vc) (x : ConC) (n : Int) (w : World) (ta : Terms o l h w va x.a) (tb : Terms o l h w vb x.b) (tc : Terms o l h w vc x.c) (hw : h ≤ w.heap.size) :
    Calls Try.prog 149 #[.agg #[va, vb, vc], .int .i64 n] w fun e w' => e = .returned (.bool (conW n x)) ∧ Below w.heap.size w w' := by
  obtain ⟨aa, ka, rfl, laa, baa⟩ := ta.shape
  obtain ⟨ab, kb, rfl, lab, bab⟩ := tb.shape
  obtain ⟨ac, kc, rfl, lac, bac⟩ := tc.shape
  cases ha : linW n x.a
  · have HR : Hid (conW n x = false) := Lib.hid (by simp [conW, ha])
    go_enter Try.func149, Try.ntmps149
    go_wp2_with fail
    refine name_call fun w1 hw1 => ?_
    have b1 : Below w.heap.size w w1 := by rw [hw1]; (repeat (first | with_reducible exact Below.refl _ _ | with_reducible assumption | with_reducible refine Below.drew ?_ | with_reducible refine bdrewN ?_ _ | ((with_reducible refine balloc ?_ ?_ _); (focus (first | with_reducible exact Nat.le_refl _ | (simp; done) | omega | (simp; omega) | exact Nat.le_refl _))) | ((with_reducible refine bset ?_ ?_ _); (focus (first | with_reducible exact Nat.le_refl _ | (simp; done) | omega | (simp; omega) | exact Nat.le_refl _)))))
    have z1 : w.heap.size + 1 ≤ w1.heap.size := by rw [hw1]; simp
    have e1 : Below w.heap.size w w1 := by rw [hw1]; (repeat (first | with_reducible exact Below.refl _ _ | with_reducible assumption | with_reducible refine Below.drew ?_ | with_reducible refine bdrewN ?_ _ | ((with_reducible refine balloc ?_ ?_ _); (focus (first | with_reducible exact Nat.le_refl _ | (simp; done) | omega | (simp; omega) | exact Nat.le_refl _))) | ((with_reducible refine bset ?_ ?_ _); (focus (first | with_reducible exact Nat.le_refl _ | (simp; done) | omega | (simp; omega) | exact Nat.le_refl _)))))
    have ca1 : w1.cell? ⟨w.heap.size, 0, none⟩ = some (.slice aa x.a.length ka) := by rw [hw1]; first | (simp; done) | go_simp
    have cb1 : w1.cell? ⟨w.heap.size, 1, none⟩ = some (.slice ab x.b.length kb) := by rw [hw1]; first | (simp; done) | go_simp
    have cc1 : w1.cell? ⟨w.heap.size, 2, none⟩ = some (.slice ac x.c.length kc) := by rw [hw1]; first | (simp; done) | go_simp
    have ta1 := ta.keep e1 (by omega)
    have tb1 := tb.keep e1 (by omega)
    have tc1 := tc.keep e1 (by omega)
    clear hw1
    refine (withinI_no o l h _ x.a n _ ta1 (by omega) ha).mono ?_; rintro e w2 ⟨rfl, f2⟩
    have b2 := b1.trans (f2.mono (by omega))
    have z2 := f2.size
    have ca2 := cell_keep f2 ca1
    have cb2 := cell_keep f2 cb1
    have cc2 := cell_keep f2 cc1
    have ta2 := ta1.keep f2 (by omega)
    have tb2 := tb1.keep f2 (by omega)
    have tc2 := tc1.keep f2 (by omega)
    clear ca1 cb1 cc1 ta1 tb1 tc1
    go_wp2_with fail
    go_ret
    exact ⟨ret_bool HR.out.symm, b2⟩
  cases hb : linW n x.b
  · have HR : Hid (conW n x = false) := Lib.hid (by simp [conW, ha, hb])
    go_enter Try.func149, Try.ntmps149
    go_wp2_with fail
    refine name_call fun w1 hw1 => ?_
    have b1 : Below w.heap.size w w1 := by rw [hw1]; (repeat (first | with_reducible exact Below.refl _ _ | with_reducible assumption | with_reducible refine Below.drew ?_ | with_reducible refine bdrewN ?_ _ | ((with_reducible refine balloc ?_ ?_ _); (focus (first | with_reducible exact Nat.le_refl _ | (simp; done) | omega | (simp; omega) | exact Nat.le_refl _))) | ((with_reducible refine bset ?_ ?_ _); (focus (first | with_reducible exact Nat.le_refl _ | (simp; done) | omega | (simp; omega) | exact Nat.le_refl _)))))
    have z1 : w.heap.size + 1 ≤ w1.heap.size := by rw [hw1]; simp
    have e1 : Below w.heap.size w w1 := by rw [hw1]; (repeat (first | with_reducible exact Below.refl _ _ | with_reducible assumption | with_reducible refine Below.drew ?_ | with_reducible refine bdrewN ?_ _ | ((with_reducible refine balloc ?_ ?_ _); (focus (first | with_reducible exact Nat.le_refl _ | (simp; done) | omega | (simp; omega) | exact Nat.le_refl _))) | ((with_reducible refine bset ?_ ?_ _); (focus (first | with_reducible exact Nat.le_refl _ | (simp; done) | omega | (simp; omega) | exact Nat.le_refl _)))))
    have ca1 : w1.cell? ⟨w.heap.size, 0, none⟩ = some (.slice aa x.a.length ka) := by rw [hw1]; first | (simp; done) | go_simp
    have cb1 : w1.cell? ⟨w.heap.size, 1, none⟩ = some (.slice ab x.b.length kb) := by rw [hw1]; first | (simp; done) | go_simp
    have cc1 : w1.cell? ⟨w.heap.size, 2, none⟩ = some (.slice ac x.c.length kc) := by rw [hw1]; first | (simp; done) | go_simp
    have ta1 := ta.keep e1 (by omega)
    have tb1 := tb.keep e1 (by omega)
    have tc1 := tc.keep e1 (by omega)
    clear hw1
    refine (withinI_yes o l h _ x.a n _ ta1 (by omega) ha).mono ?_; rintro e w2 ⟨rfl, f2⟩
    have b2 := b1.trans (f2.mono (by omega))
    have z2 := f2.size
    have ca2 := cell_keep f2 ca1
    have cb2 := cell_keep f2 cb1
    have cc2 := cell_keep f2 cc1
    have ta2 := ta1.keep f2 (by omega)
    have tb2 := tb1.keep f2 (by omega)
    have tc2 := tc1.keep f2 (by omega)
    clear ca1 cb1 cc1 ta1 tb1 tc1
    have lca2 : w.heap.size < w2.heap.size := World.block_lt_of_cell? _ _ ca2
    go_wp2_with fail
    refine name_call fun w3 hw3 => ?_
    have b3 : Below w.heap.size w w3 := by rw [hw3]; (repeat (first | with_reducible exact Below.refl _ _ | with_reducible assumption | with_reducible refine Below.drew ?_ | with_reducible refine bdrewN ?_ _ | ((with_reducible refine balloc ?_ ?_ _); (focus (first | with_reducible exact Nat.le_refl _ | (simp; done) | omega | (simp; omega) | exact Nat.le_refl _))) | ((with_reducible refine bset ?_ ?_ _); (focus (first | with_reducible exact Nat.le_refl _ | (simp; done) | omega | (simp; omega) | exact Nat.le_refl _)))))
    have z3 : w2.heap.size + 0 ≤ w3.heap.size := by rw [hw3]; simp
    have e3 : Below w2.heap.size w2 w3 := by rw [hw3]; (repeat (first | with_reducible exact Below.refl _ _ | with_reducible assumption | with_reducible refine Below.drew ?_ | with_reducible refine bdrewN ?_ _ | ((with_reducible refine balloc ?_ ?_ _); (focus (first | with_reducible exact Nat.le_refl _ | (simp; done) | omega | (simp; omega) | exact Nat.le_refl _))) | ((with_reducible refine bset ?_ ?_ _); (focus (first | with_reducible exact Nat.le_refl _ | (simp; done) | omega | (simp; omega) | exact Nat.le_refl _)))))
    have ca3 := cell_keep e3 ca2
    have cb3 := cell_keep e3 cb2
    have cc3 := cell_keep e3 cc2
    have ta3 := ta2.keep e3 (by omega)
    have tb3 := tb2.keep e3 (by omega)
    have tc3 := tc2.keep e3 (by omega)
    clear hw3 lca2 ca2 cb2 cc2 ta2 tb2 tc2
    refine (withinI_no o l h _ x.b n _ tb3 (by omega) hb).mono ?_; rintro e w4 ⟨rfl, f4⟩
    have b4 := b3.trans (f4.mono (by omega))
    have z4 := f4.size
    have ca4 := cell_keep f4 ca3
    have cb4 := cell_keep f4 cb3
    have cc4 := cell_keep f4 cc3
    have ta4 := ta3.keep f4 (by omega)
    have tb4 := tb3.keep f4 (by omega)
    have tc4 := tc3.keep f4 (by omega)
    clear ca3 cb3 cc3 ta3 tb3 tc3
    go_wp2_with fail
    go_ret
    exact ⟨ret_bool HR.out.symm, b4⟩
  cases hc : linW n x.c
  · have HR : Hid (conW n x = false) := Lib.hid (by simp [conW, ha, hb, hc])
    go_enter Try.func149, Try.ntmps149
    go_wp2_with fail
    refine name_call fun w1 hw1 => ?_
    have b1 : Below w.heap.size w w1 := by rw [hw1]; (repeat (first | with_reducible exact Below.refl _ _ | with_reducible assumption | with_reducible refine Below.drew ?_ | with_reducible refine bdrewN ?_ _ | ((with_reducible refine balloc ?_ ?_ _); (focus (first | with_reducible exact Nat.le_refl _ | (simp; done) | omega | (simp; omega) | exact Nat.le_refl _))) | ((with_reducible refine bset ?_ ?_ _); (focus (first | with_reducible exact Nat.le_refl _ | (simp; done) | omega | (simp; omega) | exact Nat.le_refl _)))))
    have z1 : w.heap.size + 1 ≤ w1.heap.size := by rw [hw1]; simp
    have e1 : Below w.heap.size w w1 := by rw [hw1]; (repeat (first | with_reducible exact Below.refl _ _ | with_reducible assumption | with_reducible refine Below.drew ?_ | with_reducible refine bdrewN ?_ _ | ((with_reducible refine balloc ?_ ?_ _); (focus (first | with_reducible exact Nat.le_refl _ | (simp; done) | omega | (simp; omega) | exact Nat.le_refl _))) | ((with_reducible refine bset ?_ ?_ _); (focus (first | with_reducible exact Nat.le_refl _ | (simp; done) | omega | (simp; omega) | exact Nat.le_refl _)))))
    have ca1 : w1.cell? ⟨w.heap.size, 0, none⟩ = some (.slice aa x.a.length ka) := by rw [hw1]; first | (simp; done) | go_simp
    have cb1 : w1.cell? ⟨w.heap.size, 1, none⟩ = some (.slice ab x.b.length kb) := by rw [hw1]; first | (simp; done) | go_simp
    have cc1 : w1.cell? ⟨w.heap.size, 2, none⟩ = some (.slice ac x.c.length kc) := by rw [hw1]; first | (simp; done) | go_simp
    have ta1 := ta.keep e1 (by omega)
    have tb1 := tb.keep e1 (by omega)
    have tc1 := tc.keep e1 (by omega)
    clear hw1
    refine (withinI_yes o l h _ x.a n _ ta1 (by omega) ha).mono ?_; rintro e w2 ⟨rfl, f2⟩
    have b2 := b1.trans (f2.mono (by omega))
    have z2 := f2.size
    have ca2 := cell_keep f2 ca1
    have cb2 := cell_keep f2 cb1
    have cc2 := cell_keep f2 cc1
    have ta2 := ta1.keep f2 (by omega)
    have tb2 := tb1.keep f2 (by omega)
    have tc2 := tc1.keep f2 (by omega)
    clear ca1 cb1 cc1 ta1 tb1 tc1
    have lca2 : w.heap.size < w2.heap.size := World.block_lt_of_cell? _ _ ca2
    go_wp2_with fail
    refine name_call fun w3 hw3 => ?_
    have b3 : Below w.heap.size w w3 := by rw [hw3]; (repeat (first | with_reducible exact Below.refl _ _ | with_reducible assumption | with_reducible refine Below.drew ?_ | with_reducible refine bdrewN ?_ _ | ((with_reducible refine balloc ?_ ?_ _); (focus (first | with_reducible exact Nat.le_refl _ | (simp; done) | omega | (simp; omega) | exact Nat.le_refl _))) | ((with_reducible refine bset ?_ ?_ _); (focus (first | with_reducible exact Nat.le_refl _ | (simp; done) | omega | (simp; omega) | exact Nat.le_refl _)))))
    have z3 : w2.heap.size + 0 ≤ w3.heap.size := by rw [hw3]; simp
    have e3 : Below w2.heap.size w2 w3 := by rw [hw3]; (repeat (first | with_reducible exact Below.refl _ _ | with_reducible assumption | with_reducible refine Below.drew ?_ | with_reducible refine bdrewN ?_ _ | ((with_reducible refine balloc ?_ ?_ _); (focus (first | with_reducible exact Nat.le_refl _ | (simp; done) | omega | (simp; omega) | exact Nat.le_refl _))) | ((with_reducible refine bset ?_ ?_ _); (focus (first | with_reducible exact Nat.le_refl _ | (simp; done) | omega | (simp; omega) | exact Nat.le_refl _)))))
    have ca3 := cell_keep e3 ca2
    have cb3 := cell_keep e3 cb2
    have cc3 := cell_keep e3 cc2
    have ta3 := ta2.keep e3 (by omega)
    have tb3 := tb2.keep e3 (by omega)
    have tc3 := tc2.keep e3 (by omega)
    clear hw3 lca2 ca2 cb2 cc2 ta2 tb2 tc2
    refine (withinI_yes o l h _ x.b n _ tb3 (by omega) hb).mono ?_; rintro e w4 ⟨rfl, f4⟩
    have b4 := b3.trans (f4.mono (by omega))
    have z4 := f4.size
    have ca4 := cell_keep f4 ca3
    have cb4 := cell_keep f4 cb3
    have cc4 := cell_keep f4 cc3
    have ta4 := ta3.keep f4 (by omega)
    have tb4 := tb3.keep f4 (by omega)
    have tc4 := tc3.keep f4 (by omega)
    clear ca3 cb3 cc3 ta3 tb3 tc3
    have lca4 : w.heap.size < w4.heap.size := World.block_lt_of_cell? _ _ ca4
    go_wp2_with fail
    refine name_call fun w5 hw5 => ?_
    have b5 : Below w.heap.size w w5 := by rw [hw5]; (repeat (first | with_reducible exact Below.refl _ _ | with_reducible assumption | with_reducible refine Below.drew ?_ | with_reducible refine bdrewN ?_ _ | ((with_reducible refine balloc ?_ ?_ _); (focus (first | with_reducible exact Nat.le_refl _ | (simp; done) | omega | (simp; omega) | exact Nat.le_refl _))) | ((with_reducible refine bset ?_ ?_ _); (focus (first | with_reducible exact Nat.le_refl _ | (simp; done) | omega | (simp; omega) | exact Nat.le_refl _)))))
    have z5 : w4.heap.size + 0 ≤ w5.heap.size := by rw [hw5]; simp
    have e5 : Below w4.heap.size w4 w5 := by rw [hw5]; (repeat (first | with_reducible exact Below.refl _ _ | with_reducible assumption | with_reducible refine Below.drew ?_ | with_reducible refine bdrewN ?_ _ | ((with_reducible refine balloc ?_ ?_ _); (focus (first | with_reducible exact Nat.le_refl _ | (simp; done) | omega | (simp; omega) | exact Nat.le_refl _))) | ((with_reducible refine bset ?_ ?_ _); (focus (first | with_reducible exact Nat.le_refl _ | (simp; done) | omega | (simp; omega) | exact Nat.le_refl _)))))
    have ca5 := cell_keep e5 ca4
    have cb5 := cell_keep e5 cb4
    have cc5 := cell_keep e5 cc4
    have ta5 := ta4.keep e5 (by omega)
    have tb5 := tb4.keep e5 (by omega)
    have tc5 := tc4.keep e5 (by omega)
    clear hw5 lca4 ca4 cb4 cc4 ta4 tb4 tc4
    refine (withinI_no o l h _ x.c n _ tc5 (by omega) hc).mono ?_; rintro e w6 ⟨rfl, f6⟩
    have b6 := b5.trans (f6.mono (by omega))
    have z6 := f6.size
    have ca6 := cell_keep f6 ca5
    have cb6 := cell_keep f6 cb5
    have cc6 := cell_keep f6 cc5
    have ta6 := ta5.keep f6 (by omega)
    have tb6 := tb5.keep f6 (by omega)
    have tc6 := tc5.keep f6 (by omega)
    clear ca5 cb5 cc5 ta5 tb5 tc5
    go_wp2_with fail
    go_ret
    exact ⟨ret_bool HR.out.symm, b6⟩
  · have HR : Hid (conW n x = true) := Lib.hid (by simp [conW, ha, hb, hc])
    go_enter Try.func149, Try.ntmps149
    go_wp2_with fail
    refine name_call fun w1 hw1 => ?_
    have b1 : Below w.heap.size w w1 := by rw [hw1]; (repeat (first | with_reducible exact Below.refl _ _ | with_reducible assumption | with_reducible refine Below.drew ?_ | with_reducible refine bdrewN ?_ _ | ((with_reducible refine balloc ?_ ?_ _); (focus (first | with_reducible exact Nat.le_refl _ | (simp; done) | omega | (simp; omega) | exact Nat.le_refl _))) | ((with_reducible refine bset ?_ ?_ _); (focus (first | with_reducible exact Nat.le_refl _ | (simp; done) | omega | (simp; omega) | exact Nat.le_refl _)))))
    have z1 : w.heap.size + 1 ≤ w1.heap.size := by rw [hw1]; simp
    have e1 : Below w.heap.size w w1 := by rw [hw1]; (repeat (first | with_reducible exact Below.refl _ _ | with_reducible assumption | with_reducible refine Below.drew ?_ | with_reducible refine bdrewN ?_ _ | ((with_reducible refine balloc ?_ ?_ _); (focus (first | with_reducible exact Nat.le_refl _ | (simp; done) | omega | (simp; omega) | exact Nat.le_refl _))) | ((with_reducible refine bset ?_ ?_ _); (focus (first | with_reducible exact Nat.le_refl _ | (simp; done) | omega | (simp; omega) | exact Nat.le_refl _)))))
    have ca1 : w1.cell? ⟨w.heap.size, 0, none⟩ = some (.slice aa x.a.length ka) := by rw [hw1]; first | (simp; done) | go_simp
    have cb1 : w1.cell? ⟨w.heap.size, 1, none⟩ = some (.slice ab x.b.length kb) := by rw [hw1]; first | (simp; done) | go_simp
    have cc1 : w1.cell? ⟨w.heap.size, 2, none⟩ = some (.slice ac x.c.length kc) := by rw [hw1]; first | (simp; done) | go_simp
    have ta1 := ta.keep e1 (by omega)
    have tb1 := tb.keep e1 (by omega)
    have tc1 := tc.keep e1 (by omega)
    clear hw1
    refine (withinI_yes o l h _ x.a n _ ta1 (by omega) ha).mono ?_; rintro e w2 ⟨rfl, f2⟩
    have b2 := b1.trans (f2.mono (by omega))
    have z2 := f2.size
    have ca2 := cell_keep f2 ca1
    have cb2 := cell_keep f2 cb1
    have cc2 := cell_keep f2 cc1
    have ta2 := ta1.keep f2 (by omega)
    have tb2 := tb1.keep f2 (by omega)
    have tc2 := tc1.keep f2 (by omega)
    clear ca1 cb1 cc1 ta1 tb1 tc1
    have lca2 : w.heap.size < w2.heap.size := World.block_lt_of_cell? _ _ ca2
    go_wp2_with fail
    refine name_call fun w3 hw3 => ?_
    have b3 : Below w.heap.size w w3 := by rw [hw3]; (repeat (first | with_reducible exact Below.refl _ _ | with_reducible assumption | with_reducible refine Below.drew ?_ | with_reducible refine bdrewN ?_ _ | ((with_reducible refine balloc ?_ ?_ _); (focus (first | with_reducible exact Nat.le_refl _ | (simp; done) | omega | (simp; omega) | exact Nat.le_refl _))) | ((with_reducible refine bset ?_ ?_ _); (focus (first | with_reducible exact Nat.le_refl _ | (simp; done) | omega | (simp; omega) | exact Nat.le_refl _)))))
    have z3 : w2.heap.size + 0 ≤ w3.heap.size := by rw [hw3]; simp
    have e3 : Below w2.heap.size w2 w3 := by rw [hw3]; (repeat (first | with_reducible exact Below.refl _ _ | with_reducible assumption | with_reducible refine Below.drew ?_ | with_reducible refine bdrewN ?_ _ | ((with_reducible refine balloc ?_ ?_ _); (focus (first | with_reducible exact Nat.le_refl _ | (simp; done) | omega | (simp; omega) | exact Nat.le_refl _))) | ((with_reducible refine bset ?_ ?_ _); (focus (first | with_reducible exact Nat.le_refl _ | (simp; done) | omega | (simp; omega) | exact Nat.le_refl _)))))
    have ca3 := cell_keep e3 ca2
    have cb3 := cell_keep e3 cb2
    have cc3 := cell_keep e3 cc2
    have ta3 := ta2.keep e3 (by omega)
    have tb3 := tb2.keep e3 (by omega)
    have tc3 := tc2.keep e3 (by omega)
    clear hw3 lca2 ca2 cb2 cc2 ta2 tb2 tc2
    refine (withinI_yes o l h _ x.b n _ tb3 (by omega) hb).mono ?_; rintro e w4 ⟨rfl, f4⟩
    have b4 := b3.trans (f4.mono (by omega))
    have z4 := f4.size
    have ca4 := cell_keep f4 ca3
    have cb4 := cell_keep f4 cb3
    have cc4 := cell_keep f4 cc3
    have ta4 := ta3.keep f4 (by omega)
    have tb4 := tb3.keep f4 (by omega)
    have tc4 := tc3.keep f4 (by omega)
    clear ca3 cb3 cc3 ta3 tb3 tc3
    have lca4 : w.heap.size < w4.heap.size := World.block_lt_of_cell? _ _ ca4
    go_wp2_with fail
    refine name_call fun w5 hw5 => ?_
    have b5 : Below w.heap.size w w5 := by rw [hw5]; (repeat (first | with_reducible exact Below.refl _ _ | with_reducible assumption | with_reducible refine Below.drew ?_ | with_reducible refine bdrewN ?_ _ | ((with_reducible refine balloc ?_ ?_ _); (focus (first | with_reducible exact Nat.le_refl _ | (simp; done) | omega | (simp; omega) | exact Nat.le_refl _))) | ((with_reducible refine bset ?_ ?_ _); (focus (first | with_reducible exact Nat.le_refl _ | (simp; done) | omega | (simp; omega) | exact Nat.le_refl _)))))
    have z5 : w4.heap.size + 0 ≤ w5.heap.size := by rw [hw5]; simp
    have e5 : Below w4.heap.size w4 w5 := by rw [hw5]; (repeat (first | with_reducible exact Below.refl _ _ | with_reducible assumption | with_reducible refine Below.drew ?_ | with_reducible refine bdrewN ?_ _ | ((with_reducible refine balloc ?_ ?_ _); (focus (first | with_reducible exact Nat.le_refl _ | (simp; done) | omega | (simp; omega) | exact Nat.le_refl _))) | ((with_reducible refine bset ?_ ?_ _); (focus (first | with_reducible exact Nat.le_refl _ | (simp; done) | omega | (simp; omega) | exact Nat.le_refl _)))))
    have ca5 := cell_keep e5 ca4
    have cb5 := cell_keep e5 cb4
    have cc5 := cell_keep e5 cc4
    have ta5 := ta4.keep e5 (by omega)
    have tb5 := tb4.keep e5 (by omega)
    have tc5 := tc4.keep e5 (by omega)
    clear hw5 lca4 ca4 cb4 cc4 ta4 tb4 tc4
    refine (withinI_yes o l h _ x.c n _ tc5 (by omega) hc).mono ?_; rintro e w6 ⟨rfl, f6⟩
    have b6 := b5.trans (f6.mono (by omega))
    have z6 := f6.size
    have ca6 := cell_keep f6 ca5
    have cb6 := cell_keep f6 cb5
    have cc6 := cell_keep f6 cc5
    have ta6 := ta5.keep f6 (by omega)
    have tb6 := tb5.keep f6 (by omega)
    have tc6 := tc5.keep f6 (by omega)
    clear ca5 cb5 cc5 ta5 tb5 tc5
    go_wp2_with fail
    go_ret
    exact ⟨ret_bool HR.out.symm, b6⟩

set_option maxRecDepth 100000 in
set_option maxHeartbeats 3200000 in
theorem hintWithin_any (o l h va vb) (x : HintC) (n : Int) (w : World) (ta : Terms o l h w va x.a) (tb : Terms o l h w vb x.b) (fk : Fits x.k) (hw : h ≤ w.heap.size) :
    Calls Try.prog 148 #[.agg #[.int .i64 x.kind, va, vb, .int .i64 x.k], .int .i64 n] w fun e w' => e = .returned (.bool (hintW n x)) ∧ Below w.heap.size w w' := by
  obtain ⟨aa, ka, rfl, laa, baa⟩ := ta.shape
  obtain ⟨ab, kb, rfl, lab, bab⟩ := tb.shape
  cases ha : linW n x.a
  · have HR : Hid (hintW n x = false) := Lib.hid (by simp [hintW, ha])
    go_enter Try.func148, Try.ntmps148
    go_wp2_with fail
    refine name_call fun w1 hw1 => ?_
    have b1 : Below w.heap.size w w1 := by rw [hw1]; (repeat (first | with_reducible exact Below.refl _ _ | with_reducible assumption | with_reducible refine Below.drew ?_ | with_reducible refine bdrewN ?_ _ | ((with_reducible refine balloc ?_ ?_ _); (focus (first | with_reducible exact Nat.le_refl _ | (simp; done) | omega | (simp; omega) | exact Nat.le_refl _))) | ((with_reducible refine bset ?_ ?_ _); (focus (first | with_reducible exact Nat.le_refl _ | (simp; done) | omega | (simp; omega) | exact Nat.le_refl _)))))
    have z1 : w.heap.size + 1 ≤ w1.heap.size := by rw [hw1]; simp
    have e1 : Below w.heap.size w w1 := by rw [hw1]; (repeat (first | with_reducible exact Below.refl _ _ | with_reducible assumption | with_reducible refine Below.drew ?_ | with_reducible refine bdrewN ?_ _ | ((with_reducible refine balloc ?_ ?_ _); (focus (first | with_reducible exact Nat.le_refl _ | (simp; done) | omega | (simp; omega) | exact Nat.le_refl _))) | ((with_reducible refine bset ?_ ?_ _); (focus (first | with_reducible exact Nat.le_refl _ | (simp; done) | omega | (simp; omega) | exact Nat.le_refl _)))))
    have ci1 : w1.cell? ⟨w.heap.size, 0, none⟩ = some (.int .i64 x.kind) := by rw [hw1]; first | (simp; done) | go_simp
    have ca1 : w1.cell? ⟨w.heap.size, 1, none⟩ = some (.slice aa x.a.length ka) := by rw [hw1]; first | (simp; done) | go_simp
    have cb1 : w1.cell? ⟨w.heap.size, 2, none⟩ = some (.slice ab x.b.length kb) := by rw [hw1]; first | (simp; done) | go_simp
    have ck1 : w1.cell? ⟨w.heap.size, 3, none⟩ = some (.int .i64 x.k) := by rw [hw1]; first | (simp; done) | go_simp
    have ta1 := ta.keep e1 (by omega)
    have tb1 := tb.keep e1 (by omega)
    clear hw1
    refine (withinI_no o l h _ x.a n _ ta1 (by omega) ha).mono ?_; rintro e w2 ⟨rfl, f2⟩
    have b2 := b1.trans (f2.mono (by omega))
    have z2 := f2.size
    have ci2 := cell_keep f2 ci1
    have ca2 := cell_keep f2 ca1
    have cb2 := cell_keep f2 cb1
    have ck2 := cell_keep f2 ck1
    have ta2 := ta1.keep f2 (by omega)
    have tb2 := tb1.keep f2 (by omega)
    clear ci1 ca1 cb1 ck1 ta1 tb1
    go_wp2_with fail
    go_ret
    exact ⟨ret_bool HR.out.symm, b2⟩
  cases hb : linW n x.b
  · have HR : Hid (hintW n x = false) := Lib.hid (by simp [hintW, ha, hb])
    go_enter Try.func148, Try.ntmps148
    go_wp2_with fail
    refine name_call fun w1 hw1 => ?_
    have b1 : Below w.heap.size w w1 := by rw [hw1]; (repeat (first | with_reducible exact Below.refl _ _ | with_reducible assumption | with_reducible refine Below.drew ?_ | with_reducible refine bdrewN ?_ _ | ((with_reducible refine balloc ?_ ?_ _); (focus (first | with_reducible exact Nat.le_refl _ | (simp; done) | omega | (simp; omega) | exact Nat.le_refl _))) | ((with_reducible refine bset ?_ ?_ _); (focus (first | with_reducible exact Nat.le_refl _ | (simp; done) | omega | (simp; omega) | exact Nat.le_refl _)))))
    have z1 : w.heap.size + 1 ≤ w1.heap.size := by rw [hw1]; simp
    have e1 : Below w.heap.size w w1 := by rw [hw1]; (repeat (first | with_reducible exact Below.refl _ _ | with_reducible assumption | with_reducible refine Below.drew ?_ | with_reducible refine bdrewN ?_ _ | ((with_reducible refine balloc ?_ ?_ _); (focus (first | with_reducible exact Nat.le_refl _ | (simp; done) | omega | (simp; omega) | exact Nat.le_refl _))) | ((with_reducible refine bset ?_ ?_ _); (focus (first | with_reducible exact Nat.le_refl _ | (simp; done) | omega | (simp; omega) | exact Nat.le_refl _)))))
    have ci1 : w1.cell? ⟨w.heap.size, 0, none⟩ = some (.int .i64 x.kind) := by rw [hw1]; first | (simp; done) | go_simp
    have ca1 : w1.cell? ⟨w.heap.size, 1, none⟩ = some (.slice aa x.a.length ka) := by rw [hw1]; first | (simp; done) | go_simp
    have cb1 : w1.cell? ⟨w.heap.size, 2, none⟩ = some (.slice ab x.b.length kb) := by rw [hw1]; first | (simp; done) | go_simp
    have ck1 : w1.cell? ⟨w.heap.size, 3, none⟩ = some (.int .i64 x.k) := by rw [hw1]; first | (simp; done) | go_simp
    have ta1 := ta.keep e1 (by omega)
    have tb1 := tb.keep e1 (by omega)
    clear hw1
    refine (withinI_yes o l h _ x.a n _ ta1 (by omega) ha).mono ?_; rintro e w2 ⟨rfl, f2⟩
    have b2 := b1.trans (f2.mono (by omega))
    have z2 := f2.size
    have ci2 := cell_keep f2 ci1
    have ca2 := cell_keep f2 ca1
    have cb2 := cell_keep f2 cb1
    have ck2 := cell_keep f2 ck1
    have ta2 := ta1.keep f2 (by omega)
    have tb2 := tb1.keep f2 (by omega)
    clear ci1 ca1 cb1 ck1 ta1 tb1
    have lci2 : w.heap.size < w2.heap.size := World.block_lt_of_cell? _ _ ci2
    go_wp2_with fail
    refine name_call fun w3 hw3 => ?_
    have b3 : Below w.heap.size w w3 := by rw [hw3]; (repeat (first | with_reducible exact Below.refl _ _ | with_reducible assumption | with_reducible refine Below.drew ?_ | with_reducible refine bdrewN ?_ _ | ((with_reducible refine balloc ?_ ?_ _); (focus (first | with_reducible exact Nat.le_refl _ | (simp; done) | omega | (simp; omega) | exact Nat.le_refl _))) | ((with_reducible refine bset ?_ ?_ _); (focus (first | with_reducible exact Nat.le_refl _ | (simp; done) | omega | (simp; omega) | exact Nat.le_refl _)))))
    have z3 : w2.heap.size + 0 ≤ w3.heap.size := by rw [hw3]; simp
    have e3 : Below w2.heap.size w2 w3 := by rw [hw3]; (repeat (first | with_reducible exact Below.refl _ _ | with_reducible assumption | with_reducible refine Below.drew ?_ | with_reducible refine bdrewN ?_ _ | ((with_reducible refine balloc ?_ ?_ _); (focus (first | with_reducible exact Nat.le_refl _ | (simp; done) | omega | (simp; omega) | exact Nat.le_refl _))) | ((with_reducible refine bset ?_ ?_ _); (focus (first | with_reducible exact Nat.le_refl _ | (simp; done) | omega | (simp; omega) | exact Nat.le_refl _)))))
    have ci3 := cell_keep e3 ci2
    have ca3 := cell_keep e3 ca2
    have cb3 := cell_keep e3 cb2
    have ck3 := cell_keep e3 ck2
    have ta3 := ta2.keep e3 (by omega)
    have tb3 := tb2.keep e3 (by omega)
    clear hw3 lci2 ci2 ca2 cb2 ck2 ta2 tb2
    refine (withinI_no o l h _ x.b n _ tb3 (by omega) hb).mono ?_; rintro e w4 ⟨rfl, f4⟩
    have b4 := b3.trans (f4.mono (by omega))
    have z4 := f4.size
    have ci4 := cell_keep f4 ci3
    have ca4 := cell_keep f4 ca3
    have cb4 := cell_keep f4 cb3
    have ck4 := cell_keep f4 ck3
    have ta4 := ta3.keep f4 (by omega)
    have tb4 := tb3.keep f4 (by omega)
    clear ci3 ca3 cb3 ck3 ta3 tb3
    go_wp2_with fail
    go_ret
    exact ⟨ret_bool HR.out.symm, b4⟩
  have HK : Hid (hintW n x = kindOk x) := Lib.hid (by simp [hintW, ha, hb])
  by_cases q0 : x.kind = 0
  · have p0 : (x.kind == 0) = true := by simp [q0]
    have HR : Hid (hintW n x = decide (x.k = 0)) := Lib.hid (by rw [HK.out]; unfold kindOk; rw [decide_eq_decide]; omega)
    clear q0
    go_enter Try.func148, Try.ntmps148
    go_wp2_with fail
    refine name_call fun w1 hw1 => ?_
    have b1 : Below w.heap.size w w1 := by rw [hw1]; (repeat (first | with_reducible exact Below.refl _ _ | with_reducible assumption | with_reducible refine Below.drew ?_ | with_reducible refine bdrewN ?_ _ | ((with_reducible refine balloc ?_ ?_ _); (focus (first | with_reducible exact Nat.le_refl _ | (simp; done) | omega | (simp; omega) | exact Nat.le_refl _))) | ((with_reducible refine bset ?_ ?_ _); (focus (first | with_reducible exact Nat.le_refl _ | (simp; done) | omega | (simp; omega) | exact Nat.le_refl _)))))
    have z1 : w.heap.size + 1 ≤ w1.heap.size := by rw [hw1]; simp
    have e1 : Below w.heap.size w w1 := by rw [hw1]; (repeat (first | with_reducible exact Below.refl _ _ | with_reducible assumption | with_reducible refine Below.drew ?_ | with_reducible refine bdrewN ?_ _ | ((with_reducible refine balloc ?_ ?_ _); (focus (first | with_reducible exact Nat.le_refl _ | (simp; done) | omega | (simp; omega) | exact Nat.le_refl _))) | ((with_reducible refine bset ?_ ?_ _); (focus (first | with_reducible exact Nat.le_refl _ | (simp; done) | omega | (simp; omega) | exact Nat.le_refl _)))))
    have ci1 : w1.cell? ⟨w.heap.size, 0, none⟩ = some (.int .i64 x.kind) := by rw [hw1]; first | (simp; done) | go_simp
    have ca1 : w1.cell? ⟨w.heap.size, 1, none⟩ = some (.slice aa x.a.length ka) := by rw [hw1]; first | (simp; done) | go_simp
    have cb1 : w1.cell? ⟨w.heap.size, 2, none⟩ = some (.slice ab x.b.length kb) := by rw [hw1]; first | (simp; done) | go_simp
    have ck1 : w1.cell? ⟨w.heap.size, 3, none⟩ = some (.int .i64 x.k) := by rw [hw1]; first | (simp; done) | go_simp
    have ta1 := ta.keep e1 (by omega)
    have tb1 := tb.keep e1 (by omega)
    clear hw1
    refine (withinI_yes o l h _ x.a n _ ta1 (by omega) ha).mono ?_; rintro e w2 ⟨rfl, f2⟩
    have b2 := b1.trans (f2.mono (by omega))
    have z2 := f2.size
    have ci2 := cell_keep f2 ci1
    have ca2 := cell_keep f2 ca1
    have cb2 := cell_keep f2 cb1
    have ck2 := cell_keep f2 ck1
    have ta2 := ta1.keep f2 (by omega)
    have tb2 := tb1.keep f2 (by omega)
    clear ci1 ca1 cb1 ck1 ta1 tb1
    have lci2 : w.heap.size < w2.heap.size := World.block_lt_of_cell? _ _ ci2
    go_wp2_with fail
    refine name_call fun w3 hw3 => ?_
    have b3 : Below w.heap.size w w3 := by rw [hw3]; (repeat (first | with_reducible exact Below.refl _ _ | with_reducible assumption | with_reducible refine Below.drew ?_ | with_reducible refine bdrewN ?_ _ | ((with_reducible refine balloc ?_ ?_ _); (focus (first | with_reducible exact Nat.le_refl _ | (simp; done) | omega | (simp; omega) | exact Nat.le_refl _))) | ((with_reducible refine bset ?_ ?_ _); (focus (first | with_reducible exact Nat.le_refl _ | (simp; done) | omega | (simp; omega) | exact Nat.le_refl _)))))
    have z3 : w2.heap.size + 0 ≤ w3.heap.size := by rw [hw3]; simp
    have e3 : Below w2.heap.size w2 w3 := by rw [hw3]; (repeat (first | with_reducible exact Below.refl _ _ | with_reducible assumption | with_reducible refine Below.drew ?_ | with_reducible refine bdrewN ?_ _ | ((with_reducible refine balloc ?_ ?_ _); (focus (first | with_reducible exact Nat.le_refl _ | (simp; done) | omega | (simp; omega) | exact Nat.le_refl _))) | ((with_reducible refine bset ?_ ?_ _); (focus (first | with_reducible exact Nat.le_refl _ | (simp; done) | omega | (simp; omega) | exact Nat.le_refl _)))))
    have ci3 := cell_keep e3 ci2
    have ca3 := cell_keep e3 ca2
    have cb3 := cell_keep e3 cb2
    have ck3 := cell_keep e3 ck2
    have ta3 := ta2.keep e3 (by omega)
    have tb3 := tb2.keep e3 (by omega)
    clear hw3 lci2 ci2 ca2 cb2 ck2 ta2 tb2
    refine (withinI_yes o l h _ x.b n _ tb3 (by omega) hb).mono ?_; rintro e w4 ⟨rfl, f4⟩
    have b4 := b3.trans (f4.mono (by omega))
    have z4 := f4.size
    have ci4 := cell_keep f4 ci3
    have ca4 := cell_keep f4 ca3
    have cb4 := cell_keep f4 cb3
    have ck4 := cell_keep f4 ck3
    have ta4 := ta3.keep f4 (by omega)
    have tb4 := tb3.keep f4 (by omega)
    clear ci3 ca3 cb3 ck3 ta3 tb3
    go_wp2_with fail
    go_ret
    exact ⟨ret_bool (by rw [HR.out]; by_cases u : x.k = 0 <;> simp [u]), b4⟩
  by_cases q3 : x.kind = 3
  · have p0 : (x.kind == 0) = false := by simpa using q0
    have p3 : (x.kind == 3) = true := by simp [q3]
    have HR : Hid (hintW n x = decide (x.k = 0)) := Lib.hid (by rw [HK.out]; unfold kindOk; rw [decide_eq_decide]; omega)
    clear q0 q3
    go_enter Try.func148, Try.ntmps148
    go_wp2_with fail
    refine name_call fun w1 hw1 => ?_
    have b1 : Below w.heap.size w w1 := by rw [hw1]; (repeat (first | with_reducible exact Below.refl _ _ | with_reducible assumption | with_reducible refine Below.drew ?_ | with_reducible refine bdrewN ?_ _ | ((with_reducible refine balloc ?_ ?_ _); (focus (first | with_reducible exact Nat.le_refl _ | (simp; done) | omega | (simp; omega) | exact Nat.le_refl _))) | ((with_reducible refine bset ?_ ?_ _); (focus (first | with_reducible exact Nat.le_refl _ | (simp; done) | omega | (simp; omega) | exact Nat.le_refl _)))))
    have z1 : w.heap.size + 1 ≤ w1.heap.size := by rw [hw1]; simp
    have e1 : Below w.heap.size w w1 := by rw [hw1]; (repeat (first | with_reducible exact Below.refl _ _ | with_reducible assumption | with_reducible refine Below.drew ?_ | with_reducible refine bdrewN ?_ _ | ((with_reducible refine balloc ?_ ?_ _); (focus (first | with_reducible exact Nat.le_refl _ | (simp; done) | omega | (simp; omega) | exact Nat.le_refl _))) | ((with_reducible refine bset ?_ ?_ _); (focus (first | with_reducible exact Nat.le_refl _ | (simp; done) | omega | (simp; omega) | exact Nat.le_refl _)))))
    have ci1 : w1.cell? ⟨w.heap.size, 0, none⟩ = some (.int .i64 x.kind) := by rw [hw1]; first | (simp; done) | go_simp
    have ca1 : w1.cell? ⟨w.heap.size, 1, none⟩ = some (.slice aa x.a.length ka) := by rw [hw1]; first | (simp; done) | go_simp
    have cb1 : w1.cell? ⟨w.heap.size, 2, none⟩ = some (.slice ab x.b.length kb) := by rw [hw1]; first | (simp; done) | go_simp
    have ck1 : w1.cell? ⟨w.heap.size, 3, none⟩ = some (.int .i64 x.k) := by rw [hw1]; first | (simp; done) | go_simp
    have ta1 := ta.keep e1 (by omega)
    have tb1 := tb.keep e1 (by omega)
    clear hw1
    refine (withinI_yes o l h _ x.a n _ ta1 (by omega) ha).mono ?_; rintro e w2 ⟨rfl, f2⟩
    have b2 := b1.trans (f2.mono (by omega))
    have z2 := f2.size
    have ci2 := cell_keep f2 ci1
    have ca2 := cell_keep f2 ca1
    have cb2 := cell_keep f2 cb1
    have ck2 := cell_keep f2 ck1
    have ta2 := ta1.keep f2 (by omega)
    have tb2 := tb1.keep f2 (by omega)
    clear ci1 ca1 cb1 ck1 ta1 tb1
    have lci2 : w.heap.size < w2.heap.size := World.block_lt_of_cell? _ _ ci2
    go_wp2_with fail
    refine name_call fun w3 hw3 => ?_
    have b3 : Below w.heap.size w w3 := by rw [hw3]; (repeat (first | with_reducible exact Below.refl _ _ | with_reducible assumption | with_reducible refine Below.drew ?_ | with_reducible refine bdrewN ?_ _ | ((with_reducible refine balloc ?_ ?_ _); (focus (first | with_reducible exact Nat.le_refl _ | (simp; done) | omega | (simp; omega) | exact Nat.le_refl _))) | ((with_reducible refine bset ?_ ?_ _); (focus (first | with_reducible exact Nat.le_refl _ | (simp; done) | omega | (simp; omega) | exact Nat.le_refl _)))))
    have z3 : w2.heap.size + 0 ≤ w3.heap.size := by rw [hw3]; simp
    have e3 : Below w2.heap.size w2 w3 := by rw [hw3]; (repeat (first | with_reducible exact Below.refl _ _ | with_reducible assumption | with_reducible refine Below.drew ?_ | with_reducible refine bdrewN ?_ _ | ((with_reducible refine balloc ?_ ?_ _); (focus (first | with_reducible exact Nat.le_refl _ | (simp; done) | omega | (simp; omega) | exact Nat.le_refl _))) | ((with_reducible refine bset ?_ ?_ _); (focus (first | with_reducible exact Nat.le_refl _ | (simp; done) | omega | (simp; omega) | exact Nat.le_refl _)))))
    have ci3 := cell_keep e3 ci2
    have ca3 := cell_keep e3 ca2
    have cb3 := cell_keep e3 cb2
    have ck3 := cell_keep e3 ck2
    have ta3 := ta2.keep e3 (by omega)
    have tb3 := tb2.keep e3 (by omega)
    clear hw3 lci2 ci2 ca2 cb2 ck2 ta2 tb2
    refine (withinI_yes o l h _ x.b n _ tb3 (by omega) hb).mono ?_; rintro e w4 ⟨rfl, f4⟩
    have b4 := b3.trans (f4.mono (by omega))
    have z4 := f4.size
    have ci4 := cell_keep f4 ci3
    have ca4 := cell_keep f4 ca3
    have cb4 := cell_keep f4 cb3
    have ck4 := cell_keep f4 ck3
    have ta4 := ta3.keep f4 (by omega)
    have tb4 := tb3.keep f4 (by omega)
    clear ci3 ca3 cb3 ck3 ta3 tb3
    go_wp2_with fail
    go_ret
    exact ⟨ret_bool (by rw [HR.out]; by_cases u : x.k = 0 <;> simp [u]), b4⟩
  by_cases q1 : x.kind = 1
  · have p0 : (x.kind == 0) = false := by simpa using q0
    have p3 : (x.kind == 3) = false := by simpa using q3
    have p1 : (x.kind == 1) = true := by simp [q1]
    have HR : Hid (hintW n x = decide (x.b.length = 0 ∧ 0 ≤ x.k ∧ x.k ≤ 30)) := Lib.hid (by rw [HK.out]; unfold kindOk; rw [decide_eq_decide]; omega)
    clear q0 q3 q1
    by_cases s0 : x.b.length = 0
    · have s1 : ((x.b.length : Int) == 0) = true := by simp [s0]
      have HS : Hid (hintW n x = decide (0 ≤ x.k ∧ x.k ≤ 30)) := Lib.hid (by rw [HR.out, decide_eq_decide]; omega)
      clear s0
      by_cases u0 : 0 ≤ x.k
      case' neg =>
        have HT : Hid (hintW n x = false) := Lib.hid (by rw [HS.out]; exact decide_eq_false (by omega))
        go_enter Try.func148, Try.ntmps148
        go_wp2_with fail
        refine name_call fun w1 hw1 => ?_
        have b1 : Below w.heap.size w w1 := by rw [hw1]; (repeat (first | with_reducible exact Below.refl _ _ | with_reducible assumption | with_reducible refine Below.drew ?_ | with_reducible refine bdrewN ?_ _ | ((with_reducible refine balloc ?_ ?_ _); (focus (first | with_reducible exact Nat.le_refl _ | (simp; done) | omega | (simp; omega) | exact Nat.le_refl _))) | ((with_reducible refine bset ?_ ?_ _); (focus (first | with_reducible exact Nat.le_refl _ | (simp; done) | omega | (simp; omega) | exact Nat.le_refl _)))))
        have z1 : w.heap.size + 1 ≤ w1.heap.size := by rw [hw1]; simp
        have e1 : Below w.heap.size w w1 := by rw [hw1]; (repeat (first | with_reducible exact Below.refl _ _ | with_reducible assumption | with_reducible refine Below.drew ?_ | with_reducible refine bdrewN ?_ _ | ((with_reducible refine balloc ?_ ?_ _); (focus (first | with_reducible exact Nat.le_refl _ | (simp; done) | omega | (simp; omega) | exact Nat.le_refl _))) | ((with_reducible refine bset ?_ ?_ _); (focus (first | with_reducible exact Nat.le_refl _ | (simp; done) | omega | (simp; omega) | exact Nat.le_refl _)))))
        have ci1 : w1.cell? ⟨w.heap.size, 0, none⟩ = some (.int .i64 x.kind) := by rw [hw1]; first | (simp; done) | go_simp
        have ca1 : w1.cell? ⟨w.heap.size, 1, none⟩ = some (.slice aa x.a.length ka) := by rw [hw1]; first | (simp; done) | go_simp
        have cb1 : w1.cell? ⟨w.heap.size, 2, none⟩ = some (.slice ab x.b.length kb) := by rw [hw1]; first | (simp; done) | go_simp
        have ck1 : w1.cell? ⟨w.heap.size, 3, none⟩ = some (.int .i64 x.k) := by rw [hw1]; first | (simp; done) | go_simp
        have ta1 := ta.keep e1 (by omega)
        have tb1 := tb.keep e1 (by omega)
        clear hw1
        refine (withinI_yes o l h _ x.a n _ ta1 (by omega) ha).mono ?_; rintro e w2 ⟨rfl, f2⟩
        have b2 := b1.trans (f2.mono (by omega))
        have z2 := f2.size
        have ci2 := cell_keep f2 ci1
        have ca2 := cell_keep f2 ca1
        have cb2 := cell_keep f2 cb1
        have ck2 := cell_keep f2 ck1
        have ta2 := ta1.keep f2 (by omega)
        have tb2 := tb1.keep f2 (by omega)
        clear ci1 ca1 cb1 ck1 ta1 tb1
        have lci2 : w.heap.size < w2.heap.size := World.block_lt_of_cell? _ _ ci2
        go_wp2_with fail
        refine name_call fun w3 hw3 => ?_
        have b3 : Below w.heap.size w w3 := by rw [hw3]; (repeat (first | with_reducible exact Below.refl _ _ | with_reducible assumption | with_reducible refine Below.drew ?_ | with_reducible refine bdrewN ?_ _ | ((with_reducible refine balloc ?_ ?_ _); (focus (first | with_reducible exact Nat.le_refl _ | (simp; done) | omega | (simp; omega) | exact Nat.le_refl _))) | ((with_reducible refine bset ?_ ?_ _); (focus (first | with_reducible exact Nat.le_refl _ | (simp; done) | omega | (simp; omega) | exact Nat.le_refl _)))))
        have z3 : w2.heap.size + 0 ≤ w3.heap.size := by rw [hw3]; simp
        have e3 : Below w2.heap.size w2 w3 := by rw [hw3]; (repeat (first | with_reducible exact Below.refl _ _ | with_reducible assumption | with_reducible refine Below.drew ?_ | with_reducible refine bdrewN ?_ _ | ((with_reducible refine balloc ?_ ?_ _); (focus (first | with_reducible exact Nat.le_refl _ | (simp; done) | omega | (simp; omega) | exact Nat.le_refl _))) | ((with_reducible refine bset ?_ ?_ _); (focus (first | with_reducible exact Nat.le_refl _ | (simp; done) | omega | (simp; omega) | exact Nat.le_refl _)))))
        have ci3 := cell_keep e3 ci2
        have ca3 := cell_keep e3 ca2
        have cb3 := cell_keep e3 cb2
        have ck3 := cell_keep e3 ck2
        have ta3 := ta2.keep e3 (by omega)
        have tb3 := tb2.keep e3 (by omega)
        clear hw3 lci2 ci2 ca2 cb2 ck2 ta2 tb2
        refine (withinI_yes o l h _ x.b n _ tb3 (by omega) hb).mono ?_; rintro e w4 ⟨rfl, f4⟩
        have b4 := b3.trans (f4.mono (by omega))
        have z4 := f4.size
        have ci4 := cell_keep f4 ci3
        have ca4 := cell_keep f4 ca3
        have cb4 := cell_keep f4 cb3
        have ck4 := cell_keep f4 ck3
        have ta4 := ta3.keep f4 (by omega)
        have tb4 := tb3.keep f4 (by omega)
        clear ci3 ca3 cb3 ck3 ta3 tb3
        go_wp2_with fail
        go_ret
        first | exact ⟨ret_bool HT.out.symm, b4⟩ | exact ⟨ret_bool (by rw [HT.out]; simp; omega), b4⟩
      by_cases u1 : x.k ≤ 30
      case' neg =>
        have HT : Hid (hintW n x = false) := Lib.hid (by rw [HS.out]; exact decide_eq_false (by omega))
        go_enter Try.func148, Try.ntmps148
        go_wp2_with fail
        refine name_call fun w1 hw1 => ?_
        have b1 : Below w.heap.size w w1 := by rw [hw1]; (repeat (first | with_reducible exact Below.refl _ _ | with_reducible assumption | with_reducible refine Below.drew ?_ | with_reducible refine bdrewN ?_ _ | ((with_reducible refine balloc ?_ ?_ _); (focus (first | with_reducible exact Nat.le_refl _ | (simp; done) | omega | (simp; omega) | exact Nat.le_refl _))) | ((with_reducible refine bset ?_ ?_ _); (focus (first | with_reducible exact Nat.le_refl _ | (simp; done) | omega | (simp; omega) | exact Nat.le_refl _)))))
        have z1 : w.heap.size + 1 ≤ w1.heap.size := by rw [hw1]; simp
        have e1 : Below w.heap.size w w1 := by rw [hw1]; (repeat (first | with_reducible exact Below.refl _ _ | with_reducible assumption | with_reducible refine Below.drew ?_ | with_reducible refine bdrewN ?_ _ | ((with_reducible refine balloc ?_ ?_ _); (focus (first | with_reducible exact Nat.le_refl _ | (simp; done) | omega | (simp; omega) | exact Nat.le_refl _))) | ((with_reducible refine bset ?_ ?_ _); (focus (first | with_reducible exact Nat.le_refl _ | (simp; done) | omega | (simp; omega) | exact Nat.le_refl _)))))
        have ci1 : w1.cell? ⟨w.heap.size, 0, none⟩ = some (.int .i64 x.kind) := by rw [hw1]; first | (simp; done) | go_simp
        have ca1 : w1.cell? ⟨w.heap.size, 1, none⟩ = some (.slice aa x.a.length ka) := by rw [hw1]; first | (simp; done) | go_simp
        have cb1 : w1.cell? ⟨w.heap.size, 2, none⟩ = some (.slice ab x.b.length kb) := by rw [hw1]; first | (simp; done) | go_simp
        have ck1 : w1.cell? ⟨w.heap.size, 3, none⟩ = some (.int .i64 x.k) := by rw [hw1]; first | (simp; done) | go_simp
        have ta1 := ta.keep e1 (by omega)
        have tb1 := tb.keep e1 (by omega)
        clear hw1
        refine (withinI_yes o l h _ x.a n _ ta1 (by omega) ha).mono ?_; rintro e w2 ⟨rfl, f2⟩
        have b2 := b1.trans (f2.mono (by omega))
        have z2 := f2.size
        have ci2 := cell_keep f2 ci1
        have ca2 := cell_keep f2 ca1
        have cb2 := cell_keep f2 cb1
        have ck2 := cell_keep f2 ck1
        have ta2 := ta1.keep f2 (by omega)
        have tb2 := tb1.keep f2 (by omega)
        clear ci1 ca1 cb1 ck1 ta1 tb1
        have lci2 : w.heap.size < w2.heap.size := World.block_lt_of_cell? _ _ ci2
        go_wp2_with fail
        refine name_call fun w3 hw3 => ?_
        have b3 : Below w.heap.size w w3 := by rw [hw3]; (repeat (first | with_reducible exact Below.refl _ _ | with_reducible assumption | with_reducible refine Below.drew ?_ | with_reducible refine bdrewN ?_ _ | ((with_reducible refine balloc ?_ ?_ _); (focus (first | with_reducible exact Nat.le_refl _ | (simp; done) | omega | (simp; omega) | exact Nat.le_refl _))) | ((with_reducible refine bset ?_ ?_ _); (focus (first | with_reducible exact Nat.le_refl _ | (simp; done) | omega | (simp; omega) | exact Nat.le_refl _)))))
        have z3 : w2.heap.size + 0 ≤ w3.heap.size := by rw [hw3]; simp
        have e3 : Below w2.heap.size w2 w3 := by rw [hw3]; (repeat (first | with_reducible exact Below.refl _ _ | with_reducible assumption | with_reducible refine Below.drew ?_ | with_reducible refine bdrewN ?_ _ | ((with_reducible refine balloc ?_ ?_ _); (focus (first | with_reducible exact Nat.le_refl _ | (simp; done) | omega | (simp; omega) | exact Nat.le_refl _))) | ((with_reducible refine bset ?_ ?_ _); (focus (first | with_reducible exact Nat.le_refl _ | (simp; done) | omega | (simp; omega) | exact Nat.le_refl _)))))
        have ci3 := cell_keep e3 ci2
        have ca3 := cell_keep e3 ca2
        have cb3 := cell_keep e3 cb2
        have ck3 := cell_keep e3 ck2
        have ta3 := ta2.keep e3 (by omega)
        have tb3 := tb2.keep e3 (by omega)
        clear hw3 lci2 ci2 ca2 cb2 ck2 ta2 tb2
        refine (withinI_yes o l h _ x.b n _ tb3 (by omega) hb).mono ?_; rintro e w4 ⟨rfl, f4⟩
        have b4 := b3.trans (f4.mono (by omega))
        have z4 := f4.size
        have ci4 := cell_keep f4 ci3
        have ca4 := cell_keep f4 ca3
        have cb4 := cell_keep f4 cb3
        have ck4 := cell_keep f4 ck3
        have ta4 := ta3.keep f4 (by omega)
        have tb4 := tb3.keep f4 (by omega)
        clear ci3 ca3 cb3 ck3 ta3 tb3
        go_wp2_with fail
        go_ret
        first | exact ⟨ret_bool HT.out.symm, b4⟩ | exact ⟨ret_bool (by rw [HT.out]; simp; omega), b4⟩
      have HT : Hid (hintW n x = true) := Lib.hid (by rw [HS.out]; exact decide_eq_true ⟨u0, u1⟩)
      go_enter Try.func148, Try.ntmps148
      go_wp2_with fail
      refine name_call fun w1 hw1 => ?_
      have b1 : Below w.heap.size w w1 := by rw [hw1]; (repeat (first | with_reducible exact Below.refl _ _ | with_reducible assumption | with_reducible refine Below.drew ?_ | with_reducible refine bdrewN ?_ _ | ((with_reducible refine balloc ?_ ?_ _); (focus (first | with_reducible exact Nat.le_refl _ | (simp; done) | omega | (simp; omega) | exact Nat.le_refl _))) | ((with_reducible refine bset ?_ ?_ _); (focus (first | with_reducible exact Nat.le_refl _ | (simp; done) | omega | (simp; omega) | exact Nat.le_refl _)))))
      have z1 : w.heap.size + 1 ≤ w1.heap.size := by rw [hw1]; simp
      have e1 : Below w.heap.size w w1 := by rw [hw1]; (repeat (first | with_reducible exact Below.refl _ _ | with_reducible assumption | with_reducible refine Below.drew ?_ | with_reducible refine bdrewN ?_ _ | ((with_reducible refine balloc ?_ ?_ _); (focus (first | with_reducible exact Nat.le_refl _ | (simp; done) | omega | (simp; omega) | exact Nat.le_refl _))) | ((with_reducible refine bset ?_ ?_ _); (focus (first | with_reducible exact Nat.le_refl _ | (simp; done) | omega | (simp; omega) | exact Nat.le_refl _)))))
      have ci1 : w1.cell? ⟨w.heap.size, 0, none⟩ = some (.int .i64 x.kind) := by rw [hw1]; first | (simp; done) | go_simp
      have ca1 : w1.cell? ⟨w.heap.size, 1, none⟩ = some (.slice aa x.a.length ka) := by rw [hw1]; first | (simp; done) | go_simp
      have cb1 : w1.cell? ⟨w.heap.size, 2, none⟩ = some (.slice ab x.b.length kb) := by rw [hw1]; first | (simp; done) | go_simp
      have ck1 : w1.cell? ⟨w.heap.size, 3, none⟩ = some (.int .i64 x.k) := by rw [hw1]; first | (simp; done) | go_simp
      have ta1 := ta.keep e1 (by omega)
      have tb1 := tb.keep e1 (by omega)
      clear hw1
      refine (withinI_yes o l h _ x.a n _ ta1 (by omega) ha).mono ?_; rintro e w2 ⟨rfl, f2⟩
      have b2 := b1.trans (f2.mono (by omega))
      have z2 := f2.size
      have ci2 := cell_keep f2 ci1
      have ca2 := cell_keep f2 ca1
      have cb2 := cell_keep f2 cb1
      have ck2 := cell_keep f2 ck1
      have ta2 := ta1.keep f2 (by omega)
      have tb2 := tb1.keep f2 (by omega)
      clear ci1 ca1 cb1 ck1 ta1 tb1
      have lci2 : w.heap.size < w2.heap.size := World.block_lt_of_cell? _ _ ci2
      go_wp2_with fail
      refine name_call fun w3 hw3 => ?_
      have b3 : Below w.heap.size w w3 := by rw [hw3]; (repeat (first | with_reducible exact Below.refl _ _ | with_reducible assumption | with_reducible refine Below.drew ?_ | with_reducible refine bdrewN ?_ _ | ((with_reducible refine balloc ?_ ?_ _); (focus (first | with_reducible exact Nat.le_refl _ | (simp; done) | omega | (simp; omega) | exact Nat.le_refl _))) | ((with_reducible refine bset ?_ ?_ _); (focus (first | with_reducible exact Nat.le_refl _ | (simp; done) | omega | (simp; omega) | exact Nat.le_refl _)))))
      have z3 : w2.heap.size + 0 ≤ w3.heap.size := by rw [hw3]; simp
      have e3 : Below w2.heap.size w2 w3 := by rw [hw3]; (repeat (first | with_reducible exact Below.refl _ _ | with_reducible assumption | with_reducible refine Below.drew ?_ | with_reducible refine bdrewN ?_ _ | ((with_reducible refine balloc ?_ ?_ _); (focus (first | with_reducible exact Nat.le_refl _ | (simp; done) | omega | (simp; omega) | exact Nat.le_refl _))) | ((with_reducible refine bset ?_ ?_ _); (focus (first | with_reducible exact Nat.le_refl _ | (simp; done) | omega | (simp; omega) | exact Nat.le_refl _)))))
      have ci3 := cell_keep e3 ci2
      have ca3 := cell_keep e3 ca2
      have cb3 := cell_keep e3 cb2
      have ck3 := cell_keep e3 ck2
      have ta3 := ta2.keep e3 (by omega)
      have tb3 := tb2.keep e3 (by omega)
      clear hw3 lci2 ci2 ca2 cb2 ck2 ta2 tb2
      refine (withinI_yes o l h _ x.b n _ tb3 (by omega) hb).mono ?_; rintro e w4 ⟨rfl, f4⟩
      have b4 := b3.trans (f4.mono (by omega))
      have z4 := f4.size
      have ci4 := cell_keep f4 ci3
      have ca4 := cell_keep f4 ca3
      have cb4 := cell_keep f4 cb3
      have ck4 := cell_keep f4 ck3
      have ta4 := ta3.keep f4 (by omega)
      have tb4 := tb3.keep f4 (by omega)
      clear ci3 ca3 cb3 ck3 ta3 tb3
      go_wp2_with fail
      go_ret
      exact ⟨ret_bool HT.out.symm, b4⟩
    · have s1 : ((x.b.length : Int) == 0) = false := by simp [s0]
      have HS : Hid (hintW n x = false) := Lib.hid (by rw [HR.out, decide_eq_false_iff_not]; omega)
      clear s0
      go_enter Try.func148, Try.ntmps148
      go_wp2_with fail
      refine name_call fun w1 hw1 => ?_
      have b1 : Below w.heap.size w w1 := by rw [hw1]; (repeat (first | with_reducible exact Below.refl _ _ | with_reducible assumption | with_reducible refine Below.drew ?_ | with_reducible refine bdrewN ?_ _ | ((with_reducible refine balloc ?_ ?_ _); (focus (first | with_reducible exact Nat.le_refl _ | (simp; done) | omega | (simp; omega) | exact Nat.le_refl _))) | ((with_reducible refine bset ?_ ?_ _); (focus (first | with_reducible exact Nat.le_refl _ | (simp; done) | omega | (simp; omega) | exact Nat.le_refl _)))))
      have z1 : w.heap.size + 1 ≤ w1.heap.size := by rw [hw1]; simp
      have e1 : Below w.heap.size w w1 := by rw [hw1]; (repeat (first | with_reducible exact Below.refl _ _ | with_reducible assumption | with_reducible refine Below.drew ?_ | with_reducible refine bdrewN ?_ _ | ((with_reducible refine balloc ?_ ?_ _); (focus (first | with_reducible exact Nat.le_refl _ | (simp; done) | omega | (simp; omega) | exact Nat.le_refl _))) | ((with_reducible refine bset ?_ ?_ _); (focus (first | with_reducible exact Nat.le_refl _ | (simp; done) | omega | (simp; omega) | exact Nat.le_refl _)))))
      have ci1 : w1.cell? ⟨w.heap.size, 0, none⟩ = some (.int .i64 x.kind) := by rw [hw1]; first | (simp; done) | go_simp
      have ca1 : w1.cell? ⟨w.heap.size, 1, none⟩ = some (.slice aa x.a.length ka) := by rw [hw1]; first | (simp; done) | go_simp
      have cb1 : w1.cell? ⟨w.heap.size, 2, none⟩ = some (.slice ab x.b.length kb) := by rw [hw1]; first | (simp; done) | go_simp
      have ck1 : w1.cell? ⟨w.heap.size, 3, none⟩ = some (.int .i64 x.k) := by rw [hw1]; first | (simp; done) | go_simp
      have ta1 := ta.keep e1 (by omega)
      have tb1 := tb.keep e1 (by omega)
      clear hw1
      refine (withinI_yes o l h _ x.a n _ ta1 (by omega) ha).mono ?_; rintro e w2 ⟨rfl, f2⟩
      have b2 := b1.trans (f2.mono (by omega))
      have z2 := f2.size
      have ci2 := cell_keep f2 ci1
      have ca2 := cell_keep f2 ca1
      have cb2 := cell_keep f2 cb1
      have ck2 := cell_keep f2 ck1
      have ta2 := ta1.keep f2 (by omega)
      have tb2 := tb1.keep f2 (by omega)
      clear ci1 ca1 cb1 ck1 ta1 tb1
      have lci2 : w.heap.size < w2.heap.size := World.block_lt_of_cell? _ _ ci2
      go_wp2_with fail
      refine name_call fun w3 hw3 => ?_
      have b3 : Below w.heap.size w w3 := by rw [hw3]; (repeat (first | with_reducible exact Below.refl _ _ | with_reducible assumption | with_reducible refine Below.drew ?_ | with_reducible refine bdrewN ?_ _ | ((with_reducible refine balloc ?_ ?_ _); (focus (first | with_reducible exact Nat.le_refl _ | (simp; done) | omega | (simp; omega) | exact Nat.le_refl _))) | ((with_reducible refine bset ?_ ?_ _); (focus (first | with_reducible exact Nat.le_refl _ | (simp; done) | omega | (simp; omega) | exact Nat.le_refl _)))))
      have z3 : w2.heap.size + 0 ≤ w3.heap.size := by rw [hw3]; simp
      have e3 : Below w2.heap.size w2 w3 := by rw [hw3]; (repeat (first | with_reducible exact Below.refl _ _ | with_reducible assumption | with_reducible refine Below.drew ?_ | with_reducible refine bdrewN ?_ _ | ((with_reducible refine balloc ?_ ?_ _); (focus (first | with_reducible exact Nat.le_refl _ | (simp; done) | omega | (simp; omega) | exact Nat.le_refl _))) | ((with_reducible refine bset ?_ ?_ _); (focus (first | with_reducible exact Nat.le_refl _ | (simp; done) | omega | (simp; omega) | exact Nat.le_refl _)))))
      have ci3 := cell_keep e3 ci2
      have ca3 := cell_keep e3 ca2
      have cb3 := cell_keep e3 cb2
      have ck3 := cell_keep e3 ck2
      have ta3 := ta2.keep e3 (by omega)
      have tb3 := tb2.keep e3 (by omega)
      clear hw3 lci2 ci2 ca2 cb2 ck2 ta2 tb2
      refine (withinI_yes o l h _ x.b n _ tb3 (by omega) hb).mono ?_; rintro e w4 ⟨rfl, f4⟩
      have b4 := b3.trans (f4.mono (by omega))
      have z4 := f4.size
      have ci4 := cell_keep f4 ci3
      have ca4 := cell_keep f4 ca3
      have cb4 := cell_keep f4 cb3
      have ck4 := cell_keep f4 ck3
      have ta4 := ta3.keep f4 (by omega)
      have tb4 := tb3.keep f4 (by omega)
      clear ci3 ca3 cb3 ck3 ta3 tb3
      go_wp2_with fail
      go_ret
      exact ⟨ret_bool (by rw [HS.out]), b4⟩
  by_cases q2 : x.kind = 2
  · have p0 : (x.kind == 0) = false := by simpa using q0
    have p3 : (x.kind == 3) = false := by simpa using q3
    have p1 : (x.kind == 1) = false := by simpa using q1
    have p2 : (x.kind == 2) = true := by simp [q2]
    have HR : Hid (hintW n x = decide (x.b.length = 0 ∧ x.k = 0)) := Lib.hid (by rw [HK.out]; unfold kindOk; rw [decide_eq_decide]; omega)
    clear q0 q3 q1 q2
    by_cases s0 : x.b.length = 0
    · have s1 : ((x.b.length : Int) == 0) = true := by simp [s0]
      have HS : Hid (hintW n x = decide (x.k = 0)) := Lib.hid (by rw [HR.out, decide_eq_decide]; omega)
      clear s0
      go_enter Try.func148, Try.ntmps148
      go_wp2_with fail
      refine name_call fun w1 hw1 => ?_
      have b1 : Below w.heap.size w w1 := by rw [hw1]; (repeat (first | with_reducible exact Below.refl _ _ | with_reducible assumption | with_reducible refine Below.drew ?_ | with_reducible refine bdrewN ?_ _ | ((with_reducible refine balloc ?_ ?_ _); (focus (first | with_reducible exact Nat.le_refl _ | (simp; done) | omega | (simp; omega) | exact Nat.le_refl _))) | ((with_reducible refine bset ?_ ?_ _); (focus (first | with_reducible exact Nat.le_refl _ | (simp; done) | omega | (simp; omega) | exact Nat.le_refl _)))))
      have z1 : w.heap.size + 1 ≤ w1.heap.size := by rw [hw1]; simp
      have e1 : Below w.heap.size w w1 := by rw [hw1]; (repeat (first | with_reducible exact Below.refl _ _ | with_reducible assumption | with_reducible refine Below.drew ?_ | with_reducible refine bdrewN ?_ _ | ((with_reducible refine balloc ?_ ?_ _); (focus (first | with_reducible exact Nat.le_refl _ | (simp; done) | omega | (simp; omega) | exact Nat.le_refl _))) | ((with_reducible refine bset ?_ ?_ _); (focus (first | with_reducible exact Nat.le_refl _ | (simp; done) | omega | (simp; omega) | exact Nat.le_refl _)))))
      have ci1 : w1.cell? ⟨w.heap.size, 0, none⟩ = some (.int .i64 x.kind) := by rw [hw1]; first | (simp; done) | go_simp
      have ca1 : w1.cell? ⟨w.heap.size, 1, none⟩ = some (.slice aa x.a.length ka) := by rw [hw1]; first | (simp; done) | go_simp
      have cb1 : w1.cell? ⟨w.heap.size, 2, none⟩ = some (.slice ab x.b.length kb) := by rw [hw1]; first | (simp; done) | go_simp
      have ck1 : w1.cell? ⟨w.heap.size, 3, none⟩ = some (.int .i64 x.k) := by rw [hw1]; first | (simp; done) | go_simp
      have ta1 := ta.keep e1 (by omega)
      have tb1 := tb.keep e1 (by omega)
      clear hw1
      refine (withinI_yes o l h _ x.a n _ ta1 (by omega) ha).mono ?_; rintro e w2 ⟨rfl, f2⟩
      have b2 := b1.trans (f2.mono (by omega))
      have z2 := f2.size
      have ci2 := cell_keep f2 ci1
      have ca2 := cell_keep f2 ca1
      have cb2 := cell_keep f2 cb1
      have ck2 := cell_keep f2 ck1
      have ta2 := ta1.keep f2 (by omega)
      have tb2 := tb1.keep f2 (by omega)
      clear ci1 ca1 cb1 ck1 ta1 tb1
      have lci2 : w.heap.size < w2.heap.size := World.block_lt_of_cell? _ _ ci2
      go_wp2_with fail
      refine name_call fun w3 hw3 => ?_
      have b3 : Below w.heap.size w w3 := by rw [hw3]; (repeat (first | with_reducible exact Below.refl _ _ | with_reducible assumption | with_reducible refine Below.drew ?_ | with_reducible refine bdrewN ?_ _ | ((with_reducible refine balloc ?_ ?_ _); (focus (first | with_reducible exact Nat.le_refl _ | (simp; done) | omega | (simp; omega) | exact Nat.le_refl _))) | ((with_reducible refine bset ?_ ?_ _); (focus (first | with_reducible exact Nat.le_refl _ | (simp; done) | omega | (simp; omega) | exact Nat.le_refl _)))))
      have z3 : w2.heap.size + 0 ≤ w3.heap.size := by rw [hw3]; simp
      have e3 : Below w2.heap.size w2 w3 := by rw [hw3]; (repeat (first | with_reducible exact Below.refl _ _ | with_reducible assumption | with_reducible refine Below.drew ?_ | with_reducible refine bdrewN ?_ _ | ((with_reducible refine balloc ?_ ?_ _); (focus (first | with_reducible exact Nat.le_refl _ | (simp; done) | omega | (simp; omega) | exact Nat.le_refl _))) | ((with_reducible refine bset ?_ ?_ _); (focus (first | with_reducible exact Nat.le_refl _ | (simp; done) | omega | (simp; omega) | exact Nat.le_refl _)))))
      have ci3 := cell_keep e3 ci2
      have ca3 := cell_keep e3 ca2
      have cb3 := cell_keep e3 cb2
      have ck3 := cell_keep e3 ck2
      have ta3 := ta2.keep e3 (by omega)
      have tb3 := tb2.keep e3 (by omega)
      clear hw3 lci2 ci2 ca2 cb2 ck2 ta2 tb2
      refine (withinI_yes o l h _ x.b n _ tb3 (by omega) hb).mono ?_; rintro e w4 ⟨rfl, f4⟩
      have b4 := b3.trans (f4.mono (by omega))
      have z4 := f4.size
      have ci4 := cell_keep f4 ci3
      have ca4 := cell_keep f4 ca3
      have cb4 := cell_keep f4 cb3
      have ck4 := cell_keep f4 ck3
      have ta4 := ta3.keep f4 (by omega)
      have tb4 := tb3.keep f4 (by omega)
      clear ci3 ca3 cb3 ck3 ta3 tb3
      go_wp2_with fail
      go_ret
      exact ⟨ret_bool (by rw [HS.out]; by_cases u : x.k = 0 <;> simp [u]), b4⟩
    · have s1 : ((x.b.length : Int) == 0) = false := by simp [s0]
      have HS : Hid (hintW n x = false) := Lib.hid (by rw [HR.out, decide_eq_false_iff_not]; omega)
      clear s0
      go_enter Try.func148, Try.ntmps148
      go_wp2_with fail
      refine name_call fun w1 hw1 => ?_
      have b1 : Below w.heap.size w w1 := by rw [hw1]; (repeat (first | with_reducible exact Below.refl _ _ | with_reducible assumption | with_reducible refine Below.drew ?_ | with_reducible refine bdrewN ?_ _ | ((with_reducible refine balloc ?_ ?_ _); (focus (first | with_reducible exact Nat.le_refl _ | (simp; done) | omega | (simp; omega) | exact Nat.le_refl _))) | ((with_reducible refine bset ?_ ?_ _); (focus (first | with_reducible exact Nat.le_refl _ | (simp; done) | omega | (simp; omega) | exact Nat.le_refl _)))))
      have z1 : w.heap.size + 1 ≤ w1.heap.size := by rw [hw1]; simp
      have e1 : Below w.heap.size w w1 := by rw [hw1]; (repeat (first | with_reducible exact Below.refl _ _ | with_reducible assumption | with_reducible refine Below.drew ?_ | with_reducible refine bdrewN ?_ _ | ((with_reducible refine balloc ?_ ?_ _); (focus (first | with_reducible exact Nat.le_refl _ | (simp; done) | omega | (simp; omega) | exact Nat.le_refl _))) | ((with_reducible refine bset ?_ ?_ _); (focus (first | with_reducible exact Nat.le_refl _ | (simp; done) | omega | (simp; omega) | exact Nat.le_refl _)))))
      have ci1 : w1.cell? ⟨w.heap.size, 0, none⟩ = some (.int .i64 x.kind) := by rw [hw1]; first | (simp; done) | go_simp
      have ca1 : w1.cell? ⟨w.heap.size, 1, none⟩ = some (.slice aa x.a.length ka) := by rw [hw1]; first | (simp; done) | go_simp
      have cb1 : w1.cell? ⟨w.heap.size, 2, none⟩ = some (.slice ab x.b.length kb) := by rw [hw1]; first | (simp; done) | go_simp
      have ck1 : w1.cell? ⟨w.heap.size, 3, none⟩ = some (.int .i64 x.k) := by rw [hw1]; first | (simp; done) | go_simp
      have ta1 := ta.keep e1 (by omega)
      have tb1 := tb.keep e1 (by omega)
      clear hw1
      refine (withinI_yes o l h _ x.a n _ ta1 (by omega) ha).mono ?_; rintro e w2 ⟨rfl, f2⟩
      have b2 := b1.trans (f2.mono (by omega))
      have z2 := f2.size
      have ci2 := cell_keep f2 ci1
      have ca2 := cell_keep f2 ca1
      have cb2 := cell_keep f2 cb1
      have ck2 := cell_keep f2 ck1
      have ta2 := ta1.keep f2 (by omega)
      have tb2 := tb1.keep f2 (by omega)
      clear ci1 ca1 cb1 ck1 ta1 tb1
      have lci2 : w.heap.size < w2.heap.size := World.block_lt_of_cell? _ _ ci2
      go_wp2_with fail
      refine name_call fun w3 hw3 => ?_
      have b3 : Below w.heap.size w w3 := by rw [hw3]; (repeat (first | with_reducible exact Below.refl _ _ | with_reducible assumption | with_reducible refine Below.drew ?_ | with_reducible refine bdrewN ?_ _ | ((with_reducible refine balloc ?_ ?_ _); (focus (first | with_reducible exact Nat.le_refl _ | (simp; done) | omega | (simp; omega) | exact Nat.le_refl _))) | ((with_reducible refine bset ?_ ?_ _); (focus (first | with_reducible exact Nat.le_refl _ | (simp; done) | omega | (simp; omega) | exact Nat.le_refl _)))))
      have z3 : w2.heap.size + 0 ≤ w3.heap.size := by rw [hw3]; simp
      have e3 : Below w2.heap.size w2 w3 := by rw [hw3]; (repeat (first | with_reducible exact Below.refl _ _ | with_reducible assumption | with_reducible refine Below.drew ?_ | with_reducible refine bdrewN ?_ _ | ((with_reducible refine balloc ?_ ?_ _); (focus (first | with_reducible exact Nat.le_refl _ | (simp; done) | omega | (simp; omega) | exact Nat.le_refl _))) | ((with_reducible refine bset ?_ ?_ _); (focus (first | with_reducible exact Nat.le_refl _ | (simp; done) | omega | (simp; omega) | exact Nat.le_refl _)))))
      have ci3 := cell_keep e3 ci2
      have ca3 := cell_keep e3 ca2
      have cb3 := cell_keep e3 cb2
      have ck3 := cell_keep e3 ck2
      have ta3 := ta2.keep e3 (by omega)
      have tb3 := tb2.keep e3 (by omega)
      clear hw3 lci2 ci2 ca2 cb2 ck2 ta2 tb2
      refine (withinI_yes o l h _ x.b n _ tb3 (by omega) hb).mono ?_; rintro e w4 ⟨rfl, f4⟩
      have b4 := b3.trans (f4.mono (by omega))
      have z4 := f4.size
      have ci4 := cell_keep f4 ci3
      have ca4 := cell_keep f4 ca3
      have cb4 := cell_keep f4 cb3
      have ck4 := cell_keep f4 ck3
      have ta4 := ta3.keep f4 (by omega)
      have tb4 := tb3.keep f4 (by omega)
      clear ci3 ca3 cb3 ck3 ta3 tb3
      go_wp2_with fail
      go_ret
      exact ⟨ret_bool (by rw [HS.out]), b4⟩
  · have p0 : (x.kind == 0) = false := by simpa using q0
    have p3 : (x.kind == 3) = false := by simpa using q3
    have p1 : (x.kind == 1) = false := by simpa using q1
    have p2 : (x.kind == 2) = false := by simpa using q2
    have HR : Hid (hintW n x = false) := Lib.hid (by rw [HK.out]; unfold kindOk; rw [decide_eq_false_iff_not]; omega)
    clear q0 q3 q1 q2
    go_enter Try.func148, Try.ntmps148
    go_wp2_with fail
    refine name_call fun w1 hw1 => ?_
    have b1 : Below w.heap.size w w1 := by rw [hw1]; (repeat (first | with_reducible exact Below.refl _ _ | with_reducible assumption | with_reducible refine Below.drew ?_ | with_reducible refine bdrewN ?_ _ | ((with_reducible refine balloc ?_ ?_ _); (focus (first | with_reducible exact Nat.le_refl _ | (simp; done) | omega | (simp; omega) | exact Nat.le_refl _))) | ((with_reducible refine bset ?_ ?_ _); (focus (first | with_reducible exact Nat.le_refl _ | (simp; done) | omega | (simp; omega) | exact Nat.le_refl _)))))
    have z1 : w.heap.size + 1 ≤ w1.heap.size := by rw [hw1]; simp
    have e1 : Below w.heap.size w w1 := by rw [hw1]; (repeat (first | with_reducible exact Below.refl _ _ | with_reducible assumption | with_reducible refine Below.drew ?_ | with_reducible refine bdrewN ?_ _ | ((with_reducible refine balloc ?_ ?_ _); (focus (first | with_reducible exact Nat.le_refl _ | (simp; done) | omega | (simp; omega) | exact Nat.le_refl _))) | ((with_reducible refine bset ?_ ?_ _); (focus (first | with_reducible exact Nat.le_refl _ | (simp; done) | omega | (simp; omega) | exact Nat.le_refl _)))))
    have ci1 : w1.cell? ⟨w.heap.size, 0, none⟩ = some (.int .i64 x.kind) := by rw [hw1]; first | (simp; done) | go_simp
    have ca1 : w1.cell? ⟨w.heap.size, 1, none⟩ = some (.slice aa x.a.length ka) := by rw [hw1]; first | (simp; done) | go_simp
    have cb1 : w1.cell? ⟨w.heap.size, 2, none⟩ = some (.slice ab x.b.length kb) := by rw [hw1]; first | (simp; done) | go_simp
    have ck1 : w1.cell? ⟨w.heap.size, 3, none⟩ = some (.int .i64 x.k) := by rw [hw1]; first | (simp; done) | go_simp
    have ta1 := ta.keep e1 (by omega)
    have tb1 := tb.keep e1 (by omega)
    clear hw1
    refine (withinI_yes o l h _ x.a n _ ta1 (by omega) ha).mono ?_; rintro e w2 ⟨rfl, f2⟩
    have b2 := b1.trans (f2.mono (by omega))
    have z2 := f2.size
    have ci2 := cell_keep f2 ci1
    have ca2 := cell_keep f2 ca1
    have cb2 := cell_keep f2 cb1
    have ck2 := cell_keep f2 ck1
    have ta2 := ta1.keep f2 (by omega)
    have tb2 := tb1.keep f2 (by omega)
    clear ci1 ca1 cb1 ck1 ta1 tb1
    have lci2 : w.heap.size < w2.heap.size := World.block_lt_of_cell? _ _ ci2
    go_wp2_with fail
    refine name_call fun w3 hw3 => ?_
    have b3 : Below w.heap.size w w3 := by rw [hw3]; (repeat (first | with_reducible exact Below.refl _ _ | with_reducible assumption | with_reducible refine Below.drew ?_ | with_reducible refine bdrewN ?_ _ | ((with_reducible refine balloc ?_ ?_ _); (focus (first | with_reducible exact Nat.le_refl _ | (simp; done) | omega | (simp; omega) | exact Nat.le_refl _))) | ((with_reducible refine bset ?_ ?_ _); (focus (first | with_reducible exact Nat.le_refl _ | (simp; done) | omega | (simp; omega) | exact Nat.le_refl _)))))
    have z3 : w2.heap.size + 0 ≤ w3.heap.size := by rw [hw3]; simp
    have e3 : Below w2.heap.size w2 w3 := by rw [hw3]; (repeat (first | with_reducible exact Below.refl _ _ | with_reducible assumption | with_reducible refine Below.drew ?_ | with_reducible refine bdrewN ?_ _ | ((with_reducible refine balloc ?_ ?_ _); (focus (first | with_reducible exact Nat.le_refl _ | (simp; done) | omega | (simp; omega) | exact Nat.le_refl _))) | ((with_reducible refine bset ?_ ?_ _); (focus (first | with_reducible exact Nat.le_refl _ | (simp; done) | omega | (simp; omega) | exact Nat.le_refl _)))))
    have ci3 := cell_keep e3 ci2
    have ca3 := cell_keep e3 ca2
    have cb3 := cell_keep e3 cb2
    have ck3 := cell_keep e3 ck2
    have ta3 := ta2.keep e3 (by omega)
    have tb3 := tb2.keep e3 (by omega)
    clear hw3 lci2 ci2 ca2 cb2 ck2 ta2 tb2
    refine (withinI_yes o l h _ x.b n _ tb3 (by omega) hb).mono ?_; rintro e w4 ⟨rfl, f4⟩
    have b4 := b3.trans (f4.mono (by omega))
    have z4 := f4.size
    have ci4 := cell_keep f4 ci3
    have ca4 := cell_keep f4 ca3
    have cb4 := cell_keep f4 cb3
    have ck4 := cell_keep f4 ck3
    have ta4 := ta3.keep f4 (by omega)
    have tb4 := tb3.keep f4 (by omega)
    clear ci3 ca3 cb3 ck3 ta3 tb3
    go_wp2_with fail
    go_ret
    exact ⟨ret_bool (by rw [HR.out]), b4⟩
end Go.Proofs.Yteekpdlkdpkegaa.L
