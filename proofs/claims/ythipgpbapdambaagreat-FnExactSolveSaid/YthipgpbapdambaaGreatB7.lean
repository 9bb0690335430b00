/- B7: With SysOk Gate -/
import Derived.Test.YthipgpbapdambaaGreatB6
import Derived.Test.YthipgpbapdambaaGreatB1
import Derived.Test.YthipgpbapdambaaGreatB4
import Derived.Test.YthipgpbapdambaaGreatB4
set_option linter.unusedVariables false
set_option linter.unusedSimpArgs false
/- Valid hints and constraints: the program's functions. -/
namespace Go.Proofs.YthipgpbapdambaaGreat.L
open Go.RowKit Go.Proofs.YthipgpbapdambaaGreat.S
set_option linter.unusedVariables false
set_option linter.unusedSimpArgs false

/-- Valid, and of the variables below n alone. -/
def linW (n : Int) (ts : List T) : Bool := linOk ts && decide (∀ t ∈ ts, t.1 < n)
def conW (n : Int) (c : ConC) : Bool := linW n c.a && (linW n c.b && linW n c.c)
/-- The numbers of a hint are right. -/
def kindOk (h : HintC) : Bool := decide ((h.kind = 0 ∨ h.kind = 3) ∧ h.k = 0 ∨ h.b.length = 0 ∧ (h.kind = 1 ∧ 0 ≤ h.k ∧ h.k ≤ 30 ∨ h.kind = 2 ∧ h.k = 0))
def hintW (n : Int) (h : HintC) : Bool := linW n h.a && (linW n h.b && kindOk h)
theorem linW_no {n : Int} {ts : List T} (h : linOk ts = false) : linW n ts = false := by simp [linW, h]
theorem linW_nil (n : Int) : linW n [] = true := by simp [linW, linOk, okFrom]
theorem linW_last {ts : List T} (h : linOk ts = true) {x y n : Int} (hl : ts[ts.length - 1]? = some (x, y)) : linW n ts = decide (x < n) := by
 have hg : ts.getLast? = some (x, y) := by rw [List.getLast?_eq_getElem?]; exact hl
 have hle := okFrom_last h hg
 unfold linW
 rw [h, Bool.true_and, decide_eq_decide]
 refine ⟨fun hh => hh (x, y) (List.mem_of_getLast? hg), fun hx t ht => ?_⟩
 have := hle t ht
 simp only at this
 omega
theorem linW_within {n : Nat} {ts : List T} : linW n ts = (linOk ts && within n ts) := rfl

set_option maxRecDepth 100000 in
set_option maxHeartbeats 1600000 in
theorem withinI_any (o l h va ts) (n : Int) (w : World) (t : Terms o l h w va ts) (hw : h ≤ w.heap.size) :
  Calls Tryz.prog 89 #[.agg #[va], .int .i64 n] w fun e w' => e = .returned (.bool (linW n ts)) ∧ Below w.heap.size w w' := by
 obtain ⟨a, ca, rfl, la, ba⟩ := t.shape
 cases hk : linOk ts
 ·have HR := Lib.hid (linW_no (n := n) hk)
  go_enter Tryz.func89, Tryz.ntmps89
  go_wp2_with fail
  refine name_call fun w1 hw1 => ?_
  have b1 : Below w.heap.size w w1 := by rw [hw1]; (repeat (with_reducible first | exact bR _ _ | assumption | refine bD ?_ | refine bN ?_ _ | refine bA ?_ _ | refine bS ?_ _))
  have z1 := b1.size
  clear hw1
  refine (linOk_impl_no o l h _ ts w1 (t.keep b1 hw) (by omega) hk).mono ?_; rintro e w2 ⟨rfl, f2⟩
  have b2 := b1.trans (f2.mono (by omega))
  go_wp2_with fail
  go_ret
  exact ⟨ret_bool HR.out.symm, b2⟩
 have nl := linOk_length hk
 by_cases h0 : ts.length = 0
 ·obtain rfl : ts = [] := List.eq_nil_of_length_eq_zero h0
  have HR := Lib.hid (linW_nil n)
  clear h0
  go_enter Tryz.func89, Tryz.ntmps89
  go_wp2_with fail
  refine name_call fun w1 hw1 => ?_
  have b1 : Below w.heap.size w w1 := by rw [hw1]; (repeat (with_reducible first | exact bR _ _ | assumption | refine bD ?_ | refine bN ?_ _ | refine bA ?_ _ | refine bS ?_ _))
  have z1 : w.heap.size < w1.heap.size := by rw [hw1]; simp
  have cA : w1.cell? ⟨w.heap.size, 0, none⟩ = some (.slice a 0 ca) := by rw [hw1]; first | (simp; done) | go_simp
  clear hw1
  refine (linOk_impl_yes o l h _ [] w1 (t.keep b1 hw) (by omega) hk).mono ?_; rintro e w2 ⟨rfl, f2⟩
  have b2 := b1.trans (f2.mono (by omega))
  have cA2 := cell_keep f2 cA
  have z2 := f2.size
  clear cA
  go_wp2_with fail
  go_ret
  exact ⟨ret_bool HR.out.symm, b2⟩
 ·obtain ⟨b, off, x, y, rfl, l1', m1, c1, d1, e1, fx, fy⟩ := t.at (k := ts.length - 1) (by omega)
  have HR := Lib.hid (linW_last hk (n := n) e1)
  obtain ⟨j, hj⟩ : ∃ j : Nat, j = ts.length - 1 := ⟨_, rfl⟩
  rw [← hj] at c1
  have hb0 : ((ts.length : Int) == 0) = false := beq_eq_false_iff_ne.2 (by omega)
  have s1 : IntKind.i64.wrap ((ts.length : Int) - 1) = (j : Int) := by rw [IntWalk.i64_in _ (by omega)]; omega
  have s1' : (ts.length : Int) - 1 = (j : Int) := by omega
  have s2 : (j : Int) < (ts.length : Int) := by omega
  have s3 : j < ts.length := by omega
  have hbs : b < w.heap.size := World.block_lt_of_cell? w _ c1
  have nl1 : 1 ≤ ts.length := by omega
  clear hj e1 d1 h0
  go_enter Tryz.func89, Tryz.ntmps89
  go_wp2_with fail
  refine name_call fun w1 hw1 => ?_
  have b1 : Below w.heap.size w w1 := by rw [hw1]; (repeat (with_reducible first | exact bR _ _ | assumption | refine bD ?_ | refine bN ?_ _ | refine bA ?_ _ | refine bS ?_ _))
  have z1 : w.heap.size < w1.heap.size := by rw [hw1]; simp
  have cA : w1.cell? ⟨w.heap.size, 0, none⟩ = some (.slice (some ⟨b, off, none⟩) ts.length ca) := by rw [hw1]; first | (simp; done) | go_simp
  have cB := cell_keep b1 c1
  clear hw1
  refine (linOk_impl_yes o l h _ ts w1 (t.keep b1 hw) (by omega) hk).mono ?_; rintro e w2 ⟨rfl, f2⟩
  have b2 := b1.trans (f2.mono (by omega))
  have cA2 := cell_keep f2 cA
  have cB2 := cell_keep f2 cB
  have z2 := f2.size
  have hb2 : b < w2.heap.size := by omega
  clear cA cB c1
  go_wp2_with fail
  go_ret
  exact ⟨ret_bool HR.out.symm, b2⟩
theorem withinI_yes (o l h va ts) (n : Int) (w : World) (t : Terms o l h w va ts) (hw : h ≤ w.heap.size) (hk : linW n ts = true) :
  Calls Tryz.prog 89 #[.agg #[va], .int .i64 n] w fun e w' => e = .returned (.bool true) ∧ Below w.heap.size w w' := by
 have := withinI_any o l h va ts n w t hw
 rw [hk] at this; exact this
theorem withinI_no (o l h va ts) (n : Int) (w : World) (t : Terms o l h w va ts) (hw : h ≤ w.heap.size) (hk : linW n ts = false) :
  Calls Tryz.prog 89 #[.agg #[va], .int .i64 n] w fun e w' => e = .returned (.bool false) ∧ Below w.heap.size w w' := by
 have := withinI_any o l h va ts n w t hw
 rw [hk] at this; exact this

set_option maxRecDepth 100000 in
set_option maxHeartbeats 1600000 in
theorem conWithin_any (o l h va vb vc) (x : ConC) (n : Int) (w : World) (ta : Terms o l h w va x.a) (tb : Terms o l h w vb x.b) (tc : Terms o l h w vc x.c) (hw : h ≤ w.heap.size) :
  Calls Tryz.prog 67 #[.agg #[va, vb, vc], .int .i64 n] w fun e w' => e = .returned (.bool (conW n x)) ∧ Below w.heap.size w w' := by
 obtain ⟨aa, ka, rfl, laa, baa⟩ := ta.shape
 obtain ⟨ab, kb, rfl, lab, bab⟩ := tb.shape
 obtain ⟨ac, kc, rfl, lac, bac⟩ := tc.shape
 cases ha : linW n x.a
 ·have HR : Hid (conW n x = false) := Lib.hid (by simp [conW, ha])
  go_enter Tryz.func67, Tryz.ntmps67
  go_wp2_with fail
  refine name_call fun w1 hw1 => ?_
  have b1 : Below w.heap.size w w1 := by rw [hw1]; (repeat (with_reducible first | exact bR _ _ | assumption | refine bD ?_ | refine bN ?_ _ | refine bA ?_ _ | refine bS ?_ _))
  have z1 : w.heap.size + 1 ≤ w1.heap.size := by rw [hw1]; simp
  have e1 : Below w.heap.size w w1 := by rw [hw1]; (repeat (with_reducible first | exact bR _ _ | assumption | refine bD ?_ | refine bN ?_ _ | refine bA ?_ _ | refine bS ?_ _))
  have ca1 : w1.cell? ⟨w.heap.size, 0, none⟩ = some (.slice aa x.a.length ka) := by rw [hw1]; first | (simp; done) | go_simp
  have cb1 : w1.cell? ⟨w.heap.size, 1, none⟩ = some (.slice ab x.b.length kb) := by rw [hw1]; first | (simp; done) | go_simp
  have cc1 : w1.cell? ⟨w.heap.size, 2, none⟩ = some (.slice ac x.c.length kc) := by rw [hw1]; first | (simp; done) | go_simp
  have ta1 := ta.keep e1 (by omega)
  have tb1 := tb.keep e1 (by omega)
  have tc1 := tc.keep e1 (by omega)
  clear hw1
  refine (withinI_no o l h _ x.a n _ ta1 (by omega) ha).mono ?_; rintro e w2 ⟨rfl, f2⟩
  have b2 := b1.trans (f2.mono (by omega))
  have z2 := f2.size
  have ca2 := cell_keep f2 ca1
  have cb2 := cell_keep f2 cb1
  have cc2 := cell_keep f2 cc1
  have ta2 := ta1.keep f2 (by omega)
  have tb2 := tb1.keep f2 (by omega)
  have tc2 := tc1.keep f2 (by omega)
  clear ca1 cb1 cc1 ta1 tb1 tc1
  go_wp2_with fail
  go_ret
  exact ⟨ret_bool HR.out.symm, b2⟩
 cases hb : linW n x.b
 ·have HR : Hid (conW n x = false) := Lib.hid (by simp [conW, ha, hb])
  go_enter Tryz.func67, Tryz.ntmps67
  go_wp2_with fail
  refine name_call fun w1 hw1 => ?_
  have b1 : Below w.heap.size w w1 := by rw [hw1]; (repeat (with_reducible first | exact bR _ _ | assumption | refine bD ?_ | refine bN ?_ _ | refine bA ?_ _ | refine bS ?_ _))
  have z1 : w.heap.size + 1 ≤ w1.heap.size := by rw [hw1]; simp
  have e1 : Below w.heap.size w w1 := by rw [hw1]; (repeat (with_reducible first | exact bR _ _ | assumption | refine bD ?_ | refine bN ?_ _ | refine bA ?_ _ | refine bS ?_ _))
  have ca1 : w1.cell? ⟨w.heap.size, 0, none⟩ = some (.slice aa x.a.length ka) := by rw [hw1]; first | (simp; done) | go_simp
  have cb1 : w1.cell? ⟨w.heap.size, 1, none⟩ = some (.slice ab x.b.length kb) := by rw [hw1]; first | (simp; done) | go_simp
  have cc1 : w1.cell? ⟨w.heap.size, 2, none⟩ = some (.slice ac x.c.length kc) := by rw [hw1]; first | (simp; done) | go_simp
  have ta1 := ta.keep e1 (by omega)
  have tb1 := tb.keep e1 (by omega)
  have tc1 := tc.keep e1 (by omega)
  clear hw1
  refine (withinI_yes o l h _ x.a n _ ta1 (by omega) ha).mono ?_; rintro e w2 ⟨rfl, f2⟩
  have b2 := b1.trans (f2.mono (by omega))
  have z2 := f2.size
  have ca2 := cell_keep f2 ca1
  have cb2 := cell_keep f2 cb1
  have cc2 := cell_keep f2 cc1
  have ta2 := ta1.keep f2 (by omega)
  have tb2 := tb1.keep f2 (by omega)
  have tc2 := tc1.keep f2 (by omega)
  clear ca1 cb1 cc1 ta1 tb1 tc1
  have lca2 : w.heap.size < w2.heap.size := World.block_lt_of_cell? _ _ ca2
  go_wp2_with fail
  refine name_call fun w3 hw3 => ?_
  have b3 : Below w.heap.size w w3 := by rw [hw3]; (repeat (with_reducible first | exact bR _ _ | assumption | refine bD ?_ | refine bN ?_ _ | refine bA ?_ _ | refine bS ?_ _))
  have z3 : w2.heap.size + 0 ≤ w3.heap.size := by rw [hw3]; simp
  have e3 : Below w2.heap.size w2 w3 := by rw [hw3]; (repeat (with_reducible first | exact bR _ _ | assumption | refine bD ?_ | refine bN ?_ _ | refine bA ?_ _ | refine bS ?_ _))
  have ca3 := cell_keep e3 ca2
  have cb3 := cell_keep e3 cb2
  have cc3 := cell_keep e3 cc2
  have ta3 := ta2.keep e3 (by omega)
  have tb3 := tb2.keep e3 (by omega)
  have tc3 := tc2.keep e3 (by omega)
  clear hw3 lca2 ca2 cb2 cc2 ta2 tb2 tc2
  refine (withinI_no o l h _ x.b n _ tb3 (by omega) hb).mono ?_; rintro e w4 ⟨rfl, f4⟩
  have b4 := b3.trans (f4.mono (by omega))
  have z4 := f4.size
  have ca4 := cell_keep f4 ca3
  have cb4 := cell_keep f4 cb3
  have cc4 := cell_keep f4 cc3
  have ta4 := ta3.keep f4 (by omega)
  have tb4 := tb3.keep f4 (by omega)
  have tc4 := tc3.keep f4 (by omega)
  clear ca3 cb3 cc3 ta3 tb3 tc3
  go_wp2_with fail
  go_ret
  exact ⟨ret_bool HR.out.symm, b4⟩
 cases hc : linW n x.c
 ·have HR : Hid (conW n x = false) := Lib.hid (by simp [conW, ha, hb, hc])
  go_enter Tryz.func67, Tryz.ntmps67
  go_wp2_with fail
  refine name_call fun w1 hw1 => ?_
  have b1 : Below w.heap.size w w1 := by rw [hw1]; (repeat (with_reducible first | exact bR _ _ | assumption | refine bD ?_ | refine bN ?_ _ | refine bA ?_ _ | refine bS ?_ _))
  have z1 : w.heap.size + 1 ≤ w1.heap.size := by rw [hw1]; simp
  have e1 : Below w.heap.size w w1 := by rw [hw1]; (repeat (with_reducible first | exact bR _ _ | assumption | refine bD ?_ | refine bN ?_ _ | refine bA ?_ _ | refine bS ?_ _))
  have ca1 : w1.cell? ⟨w.heap.size, 0, none⟩ = some (.slice aa x.a.length ka) := by rw [hw1]; first | (simp; done) | go_simp
  have cb1 : w1.cell? ⟨w.heap.size, 1, none⟩ = some (.slice ab x.b.length kb) := by rw [hw1]; first | (simp; done) | go_simp
  have cc1 : w1.cell? ⟨w.heap.size, 2, none⟩ = some (.slice ac x.c.length kc) := by rw [hw1]; first | (simp; done) | go_simp
  have ta1 := ta.keep e1 (by omega)
  have tb1 := tb.keep e1 (by omega)
  have tc1 := tc.keep e1 (by omega)
  clear hw1
  refine (withinI_yes o l h _ x.a n _ ta1 (by omega) ha).mono ?_; rintro e w2 ⟨rfl, f2⟩
  have b2 := b1.trans (f2.mono (by omega))
  have z2 := f2.size
  have ca2 := cell_keep f2 ca1
  have cb2 := cell_keep f2 cb1
  have cc2 := cell_keep f2 cc1
  have ta2 := ta1.keep f2 (by omega)
  have tb2 := tb1.keep f2 (by omega)
  have tc2 := tc1.keep f2 (by omega)
  clear ca1 cb1 cc1 ta1 tb1 tc1
  have lca2 : w.heap.size < w2.heap.size := World.block_lt_of_cell? _ _ ca2
  go_wp2_with fail
  refine name_call fun w3 hw3 => ?_
  have b3 : Below w.heap.size w w3 := by rw [hw3]; (repeat (with_reducible first | exact bR _ _ | assumption | refine bD ?_ | refine bN ?_ _ | refine bA ?_ _ | refine bS ?_ _))
  have z3 : w2.heap.size + 0 ≤ w3.heap.size := by rw [hw3]; simp
  have e3 : Below w2.heap.size w2 w3 := by rw [hw3]; (repeat (with_reducible first | exact bR _ _ | assumption | refine bD ?_ | refine bN ?_ _ | refine bA ?_ _ | refine bS ?_ _))
  have ca3 := cell_keep e3 ca2
  have cb3 := cell_keep e3 cb2
  have cc3 := cell_keep e3 cc2
  have ta3 := ta2.keep e3 (by omega)
  have tb3 := tb2.keep e3 (by omega)
  have tc3 := tc2.keep e3 (by omega)
  clear hw3 lca2 ca2 cb2 cc2 ta2 tb2 tc2
  refine (withinI_yes o l h _ x.b n _ tb3 (by omega) hb).mono ?_; rintro e w4 ⟨rfl, f4⟩
  have b4 := b3.trans (f4.mono (by omega))
  have z4 := f4.size
  have ca4 := cell_keep f4 ca3
  have cb4 := cell_keep f4 cb3
  have cc4 := cell_keep f4 cc3
  have ta4 := ta3.keep f4 (by omega)
  have tb4 := tb3.keep f4 (by omega)
  have tc4 := tc3.keep f4 (by omega)
  clear ca3 cb3 cc3 ta3 tb3 tc3
  have lca4 : w.heap.size < w4.heap.size := World.block_lt_of_cell? _ _ ca4
  go_wp2_with fail
  refine name_call fun w5 hw5 => ?_
  have b5 : Below w.heap.size w w5 := by rw [hw5]; (repeat (with_reducible first | exact bR _ _ | assumption | refine bD ?_ | refine bN ?_ _ | refine bA ?_ _ | refine bS ?_ _))
  have z5 : w4.heap.size + 0 ≤ w5.heap.size := by rw [hw5]; simp
  have e5 : Below w4.heap.size w4 w5 := by rw [hw5]; (repeat (with_reducible first | exact bR _ _ | assumption | refine bD ?_ | refine bN ?_ _ | refine bA ?_ _ | refine bS ?_ _))
  have ca5 := cell_keep e5 ca4
  have cb5 := cell_keep e5 cb4
  have cc5 := cell_keep e5 cc4
  have ta5 := ta4.keep e5 (by omega)
  have tb5 := tb4.keep e5 (by omega)
  have tc5 := tc4.keep e5 (by omega)
  clear hw5 lca4 ca4 cb4 cc4 ta4 tb4 tc4
  refine (withinI_no o l h _ x.c n _ tc5 (by omega) hc).mono ?_; rintro e w6 ⟨rfl, f6⟩
  have b6 := b5.trans (f6.mono (by omega))
  have z6 := f6.size
  have ca6 := cell_keep f6 ca5
  have cb6 := cell_keep f6 cb5
  have cc6 := cell_keep f6 cc5
  have ta6 := ta5.keep f6 (by omega)
  have tb6 := tb5.keep f6 (by omega)
  have tc6 := tc5.keep f6 (by omega)
  clear ca5 cb5 cc5 ta5 tb5 tc5
  go_wp2_with fail
  go_ret
  exact ⟨ret_bool HR.out.symm, b6⟩
 ·have HR : Hid (conW n x = true) := Lib.hid (by simp [conW, ha, hb, hc])
  go_enter Tryz.func67, Tryz.ntmps67
  go_wp2_with fail
  refine name_call fun w1 hw1 => ?_
  have b1 : Below w.heap.size w w1 := by rw [hw1]; (repeat (with_reducible first | exact bR _ _ | assumption | refine bD ?_ | refine bN ?_ _ | refine bA ?_ _ | refine bS ?_ _))
  have z1 : w.heap.size + 1 ≤ w1.heap.size := by rw [hw1]; simp
  have e1 : Below w.heap.size w w1 := by rw [hw1]; (repeat (with_reducible first | exact bR _ _ | assumption | refine bD ?_ | refine bN ?_ _ | refine bA ?_ _ | refine bS ?_ _))
  have ca1 : w1.cell? ⟨w.heap.size, 0, none⟩ = some (.slice aa x.a.length ka) := by rw [hw1]; first | (simp; done) | go_simp
  have cb1 : w1.cell? ⟨w.heap.size, 1, none⟩ = some (.slice ab x.b.length kb) := by rw [hw1]; first | (simp; done) | go_simp
  have cc1 : w1.cell? ⟨w.heap.size, 2, none⟩ = some (.slice ac x.c.length kc) := by rw [hw1]; first | (simp; done) | go_simp
  have ta1 := ta.keep e1 (by omega)
  have tb1 := tb.keep e1 (by omega)
  have tc1 := tc.keep e1 (by omega)
  clear hw1
  refine (withinI_yes o l h _ x.a n _ ta1 (by omega) ha).mono ?_; rintro e w2 ⟨rfl, f2⟩
  have b2 := b1.trans (f2.mono (by omega))
  have z2 := f2.size
  have ca2 := cell_keep f2 ca1
  have cb2 := cell_keep f2 cb1
  have cc2 := cell_keep f2 cc1
  have ta2 := ta1.keep f2 (by omega)
  have tb2 := tb1.keep f2 (by omega)
  have tc2 := tc1.keep f2 (by omega)
  clear ca1 cb1 cc1 ta1 tb1 tc1
  have lca2 : w.heap.size < w2.heap.size := World.block_lt_of_cell? _ _ ca2
  go_wp2_with fail
  refine name_call fun w3 hw3 => ?_
  have b3 : Below w.heap.size w w3 := by rw [hw3]; (repeat (with_reducible first | exact bR _ _ | assumption | refine bD ?_ | refine bN ?_ _ | refine bA ?_ _ | refine bS ?_ _))
  have z3 : w2.heap.size + 0 ≤ w3.heap.size := by rw [hw3]; simp
  have e3 : Below w2.heap.size w2 w3 := by rw [hw3]; (repeat (with_reducible first | exact bR _ _ | assumption | refine bD ?_ | refine bN ?_ _ | refine bA ?_ _ | refine bS ?_ _))
  have ca3 := cell_keep e3 ca2
  have cb3 := cell_keep e3 cb2
  have cc3 := cell_keep e3 cc2
  have ta3 := ta2.keep e3 (by omega)
  have tb3 := tb2.keep e3 (by omega)
  have tc3 := tc2.keep e3 (by omega)
  clear hw3 lca2 ca2 cb2 cc2 ta2 tb2 tc2
  refine (withinI_yes o l h _ x.b n _ tb3 (by omega) hb).mono ?_; rintro e w4 ⟨rfl, f4⟩
  have b4 := b3.trans (f4.mono (by omega))
  have z4 := f4.size
  have ca4 := cell_keep f4 ca3
  have cb4 := cell_keep f4 cb3
  have cc4 := cell_keep f4 cc3
  have ta4 := ta3.keep f4 (by omega)
  have tb4 := tb3.keep f4 (by omega)
  have tc4 := tc3.keep f4 (by omega)
  clear ca3 cb3 cc3 ta3 tb3 tc3
  have lca4 : w.heap.size < w4.heap.size := World.block_lt_of_cell? _ _ ca4
  go_wp2_with fail
  refine name_call fun w5 hw5 => ?_
  have b5 : Below w.heap.size w w5 := by rw [hw5]; (repeat (with_reducible first | exact bR _ _ | assumption | refine bD ?_ | refine bN ?_ _ | refine bA ?_ _ | refine bS ?_ _))
  have z5 : w4.heap.size + 0 ≤ w5.heap.size := by rw [hw5]; simp
  have e5 : Below w4.heap.size w4 w5 := by rw [hw5]; (repeat (with_reducible first | exact bR _ _ | assumption | refine bD ?_ | refine bN ?_ _ | refine bA ?_ _ | refine bS ?_ _))
  have ca5 := cell_keep e5 ca4
  have cb5 := cell_keep e5 cb4
  have cc5 := cell_keep e5 cc4
  have ta5 := ta4.keep e5 (by omega)
  have tb5 := tb4.keep e5 (by omega)
  have tc5 := tc4.keep e5 (by omega)
  clear hw5 lca4 ca4 cb4 cc4 ta4 tb4 tc4
  refine (withinI_yes o l h _ x.c n _ tc5 (by omega) hc).mono ?_; rintro e w6 ⟨rfl, f6⟩
  have b6 := b5.trans (f6.mono (by omega))
  have z6 := f6.size
  have ca6 := cell_keep f6 ca5
  have cb6 := cell_keep f6 cb5
  have cc6 := cell_keep f6 cc5
  have ta6 := ta5.keep f6 (by omega)
  have tb6 := tb5.keep f6 (by omega)
  have tc6 := tc5.keep f6 (by omega)
  clear ca5 cb5 cc5 ta5 tb5 tc5
  go_wp2_with fail
  go_ret
  exact ⟨ret_bool HR.out.symm, b6⟩

set_option maxRecDepth 100000 in
set_option maxHeartbeats 3200000 in
theorem hintWithin_any (o l h va vb) (x : HintC) (n : Int) (w : World) (ta : Terms o l h w va x.a) (tb : Terms o l h w vb x.b) (fk : Fits x.k) (hw : h ≤ w.heap.size) :
  Calls Tryz.prog 88 #[.agg #[.int .i64 x.kind, va, vb, .int .i64 x.k], .int .i64 n] w fun e w' => e = .returned (.bool (hintW n x)) ∧ Below w.heap.size w w' := by
 obtain ⟨aa, ka, rfl, laa, baa⟩ := ta.shape
 obtain ⟨ab, kb, rfl, lab, bab⟩ := tb.shape
 cases ha : linW n x.a
 ·have HR : Hid (hintW n x = false) := Lib.hid (by simp [hintW, ha])
  go_enter Tryz.func88, Tryz.ntmps88
  go_wp2_with fail
  refine name_call fun w1 hw1 => ?_
  have b1 : Below w.heap.size w w1 := by rw [hw1]; (repeat (with_reducible first | exact bR _ _ | assumption | refine bD ?_ | refine bN ?_ _ | refine bA ?_ _ | refine bS ?_ _))
  have z1 : w.heap.size + 1 ≤ w1.heap.size := by rw [hw1]; simp
  have e1 : Below w.heap.size w w1 := by rw [hw1]; (repeat (with_reducible first | exact bR _ _ | assumption | refine bD ?_ | refine bN ?_ _ | refine bA ?_ _ | refine bS ?_ _))
  have ci1 : w1.cell? ⟨w.heap.size, 0, none⟩ = some (.int .i64 x.kind) := by rw [hw1]; first | (simp; done) | go_simp
  have ca1 : w1.cell? ⟨w.heap.size, 1, none⟩ = some (.slice aa x.a.length ka) := by rw [hw1]; first | (simp; done) | go_simp
  have cb1 : w1.cell? ⟨w.heap.size, 2, none⟩ = some (.slice ab x.b.length kb) := by rw [hw1]; first | (simp; done) | go_simp
  have ck1 : w1.cell? ⟨w.heap.size, 3, none⟩ = some (.int .i64 x.k) := by rw [hw1]; first | (simp; done) | go_simp
  have ta1 := ta.keep e1 (by omega)
  have tb1 := tb.keep e1 (by omega)
  clear hw1
  refine (withinI_no o l h _ x.a n _ ta1 (by omega) ha).mono ?_; rintro e w2 ⟨rfl, f2⟩
  have b2 := b1.trans (f2.mono (by omega))
  have z2 := f2.size
  have ci2 := cell_keep f2 ci1
  have ca2 := cell_keep f2 ca1
  have cb2 := cell_keep f2 cb1
  have ck2 := cell_keep f2 ck1
  have ta2 := ta1.keep f2 (by omega)
  have tb2 := tb1.keep f2 (by omega)
  clear ci1 ca1 cb1 ck1 ta1 tb1
  go_wp2_with fail
  go_ret
  exact ⟨ret_bool HR.out.symm, b2⟩
 cases hb : linW n x.b
 ·have HR : Hid (hintW n x = false) := Lib.hid (by simp [hintW, ha, hb])
  go_enter Tryz.func88, Tryz.ntmps88
  go_wp2_with fail
  refine name_call fun w1 hw1 => ?_
  have b1 : Below w.heap.size w w1 := by rw [hw1]; (repeat (with_reducible first | exact bR _ _ | assumption | refine bD ?_ | refine bN ?_ _ | refine bA ?_ _ | refine bS ?_ _))
  have z1 : w.heap.size + 1 ≤ w1.heap.size := by rw [hw1]; simp
  have e1 : Below w.heap.size w w1 := by rw [hw1]; (repeat (with_reducible first | exact bR _ _ | assumption | refine bD ?_ | refine bN ?_ _ | refine bA ?_ _ | refine bS ?_ _))
  have ci1 : w1.cell? ⟨w.heap.size, 0, none⟩ = some (.int .i64 x.kind) := by rw [hw1]; first | (simp; done) | go_simp
  have ca1 : w1.cell? ⟨w.heap.size, 1, none⟩ = some (.slice aa x.a.length ka) := by rw [hw1]; first | (simp; done) | go_simp
  have cb1 : w1.cell? ⟨w.heap.size, 2, none⟩ = some (.slice ab x.b.length kb) := by rw [hw1]; first | (simp; done) | go_simp
  have ck1 : w1.cell? ⟨w.heap.size, 3, none⟩ = some (.int .i64 x.k) := by rw [hw1]; first | (simp; done) | go_simp
  have ta1 := ta.keep e1 (by omega)
  have tb1 := tb.keep e1 (by omega)
  clear hw1
  refine (withinI_yes o l h _ x.a n _ ta1 (by omega) ha).mono ?_; rintro e w2 ⟨rfl, f2⟩
  have b2 := b1.trans (f2.mono (by omega))
  have z2 := f2.size
  have ci2 := cell_keep f2 ci1
  have ca2 := cell_keep f2 ca1
  have cb2 := cell_keep f2 cb1
  have ck2 := cell_keep f2 ck1
  have ta2 := ta1.keep f2 (by omega)
  have tb2 := tb1.keep f2 (by omega)
  clear ci1 ca1 cb1 ck1 ta1 tb1
  have lci2 : w.heap.size < w2.heap.size := World.block_lt_of_cell? _ _ ci2
  go_wp2_with fail
  refine name_call fun w3 hw3 => ?_
  have b3 : Below w.heap.size w w3 := by rw [hw3]; (repeat (with_reducible first | exact bR _ _ | assumption | refine bD ?_ | refine bN ?_ _ | refine bA ?_ _ | refine bS ?_ _))
  have z3 : w2.heap.size + 0 ≤ w3.heap.size := by rw [hw3]; simp
  have e3 : Below w2.heap.size w2 w3 := by rw [hw3]; (repeat (with_reducible first | exact bR _ _ | assumption | refine bD ?_ | refine bN ?_ _ | refine bA ?_ _ | refine bS ?_ _))
  have ci3 := cell_keep e3 ci2
  have ca3 := cell_keep e3 ca2
  have cb3 := cell_keep e3 cb2
  have ck3 := cell_keep e3 ck2
  have ta3 := ta2.keep e3 (by omega)
  have tb3 := tb2.keep e3 (by omega)
  clear hw3 lci2 ci2 ca2 cb2 ck2 ta2 tb2
  refine (withinI_no o l h _ x.b n _ tb3 (by omega) hb).mono ?_; rintro e w4 ⟨rfl, f4⟩
  have b4 := b3.trans (f4.mono (by omega))
  have z4 := f4.size
  have ci4 := cell_keep f4 ci3
  have ca4 := cell_keep f4 ca3
  have cb4 := cell_keep f4 cb3
  have ck4 := cell_keep f4 ck3
  have ta4 := ta3.keep f4 (by omega)
  have tb4 := tb3.keep f4 (by omega)
  clear ci3 ca3 cb3 ck3 ta3 tb3
  go_wp2_with fail
  go_ret
  exact ⟨ret_bool HR.out.symm, b4⟩
 have HK : Hid (hintW n x = kindOk x) := Lib.hid (by simp [hintW, ha, hb])
 by_cases q0 : x.kind = 0
 ·have p0 : (x.kind == 0) = true := by simp [q0]
  have HR : Hid (hintW n x = decide (x.k = 0)) := Lib.hid (by rw [HK.out]; unfold kindOk; rw [decide_eq_decide]; omega)
  clear q0
  go_enter Tryz.func88, Tryz.ntmps88
  go_wp2_with fail
  refine name_call fun w1 hw1 => ?_
  have b1 : Below w.heap.size w w1 := by rw [hw1]; (repeat (with_reducible first | exact bR _ _ | assumption | refine bD ?_ | refine bN ?_ _ | refine bA ?_ _ | refine bS ?_ _))
  have z1 : w.heap.size + 1 ≤ w1.heap.size := by rw [hw1]; simp
  have e1 : Below w.heap.size w w1 := by rw [hw1]; (repeat (with_reducible first | exact bR _ _ | assumption | refine bD ?_ | refine bN ?_ _ | refine bA ?_ _ | refine bS ?_ _))
  have ci1 : w1.cell? ⟨w.heap.size, 0, none⟩ = some (.int .i64 x.kind) := by rw [hw1]; first | (simp; done) | go_simp
  have ca1 : w1.cell? ⟨w.heap.size, 1, none⟩ = some (.slice aa x.a.length ka) := by rw [hw1]; first | (simp; done) | go_simp
  have cb1 : w1.cell? ⟨w.heap.size, 2, none⟩ = some (.slice ab x.b.length kb) := by rw [hw1]; first | (simp; done) | go_simp
  have ck1 : w1.cell? ⟨w.heap.size, 3, none⟩ = some (.int .i64 x.k) := by rw [hw1]; first | (simp; done) | go_simp
  have ta1 := ta.keep e1 (by omega)
  have tb1 := tb.keep e1 (by omega)
  clear hw1
  refine (withinI_yes o l h _ x.a n _ ta1 (by omega) ha).mono ?_; rintro e w2 ⟨rfl, f2⟩
  have b2 := b1.trans (f2.mono (by omega))
  have z2 := f2.size
  have ci2 := cell_keep f2 ci1
  have ca2 := cell_keep f2 ca1
  have cb2 := cell_keep f2 cb1
  have ck2 := cell_keep f2 ck1
  have ta2 := ta1.keep f2 (by omega)
  have tb2 := tb1.keep f2 (by omega)
  clear ci1 ca1 cb1 ck1 ta1 tb1
  have lci2 : w.heap.size < w2.heap.size := World.block_lt_of_cell? _ _ ci2
  go_wp2_with fail
  refine name_call fun w3 hw3 => ?_
  have b3 : Below w.heap.size w w3 := by rw [hw3]; (repeat (with_reducible first | exact bR _ _ | assumption | refine bD ?_ | refine bN ?_ _ | refine bA ?_ _ | refine bS ?_ _))
  have z3 : w2.heap.size + 0 ≤ w3.heap.size := by rw [hw3]; simp
  have e3 : Below w2.heap.size w2 w3 := by rw [hw3]; (repeat (with_reducible first | exact bR _ _ | assumption | refine bD ?_ | refine bN ?_ _ | refine bA ?_ _ | refine bS ?_ _))
  have ci3 := cell_keep e3 ci2
  have ca3 := cell_keep e3 ca2
  have cb3 := cell_keep e3 cb2
  have ck3 := cell_keep e3 ck2
  have ta3 := ta2.keep e3 (by omega)
  have tb3 := tb2.keep e3 (by omega)
  clear hw3 lci2 ci2 ca2 cb2 ck2 ta2 tb2
  refine (withinI_yes o l h _ x.b n _ tb3 (by omega) hb).mono ?_; rintro e w4 ⟨rfl, f4⟩
  have b4 := b3.trans (f4.mono (by omega))
  have z4 := f4.size
  have ci4 := cell_keep f4 ci3
  have ca4 := cell_keep f4 ca3
  have cb4 := cell_keep f4 cb3
  have ck4 := cell_keep f4 ck3
  have ta4 := ta3.keep f4 (by omega)
  have tb4 := tb3.keep f4 (by omega)
  clear ci3 ca3 cb3 ck3 ta3 tb3
  go_wp2_with fail
  go_ret
  exact ⟨ret_bool (by rw [HR.out]; by_cases u : x.k = 0 <;> simp [u]), b4⟩
 by_cases q3 : x.kind = 3
 ·have p0 : (x.kind == 0) = false := by simpa using q0
  have p3 : (x.kind == 3) = true := by simp [q3]
  have HR : Hid (hintW n x = decide (x.k = 0)) := Lib.hid (by rw [HK.out]; unfold kindOk; rw [decide_eq_decide]; omega)
  clear q0 q3
  go_enter Tryz.func88, Tryz.ntmps88
  go_wp2_with fail
  refine name_call fun w1 hw1 => ?_
  have b1 : Below w.heap.size w w1 := by rw [hw1]; (repeat (with_reducible first | exact bR _ _ | assumption | refine bD ?_ | refine bN ?_ _ | refine bA ?_ _ | refine bS ?_ _))
  have z1 : w.heap.size + 1 ≤ w1.heap.size := by rw [hw1]; simp
  have e1 : Below w.heap.size w w1 := by rw [hw1]; (repeat (with_reducible first | exact bR _ _ | assumption | refine bD ?_ | refine bN ?_ _ | refine bA ?_ _ | refine bS ?_ _))
  have ci1 : w1.cell? ⟨w.heap.size, 0, none⟩ = some (.int .i64 x.kind) := by rw [hw1]; first | (simp; done) | go_simp
  have ca1 : w1.cell? ⟨w.heap.size, 1, none⟩ = some (.slice aa x.a.length ka) := by rw [hw1]; first | (simp; done) | go_simp
  have cb1 : w1.cell? ⟨w.heap.size, 2, none⟩ = some (.slice ab x.b.length kb) := by rw [hw1]; first | (simp; done) | go_simp
  have ck1 : w1.cell? ⟨w.heap.size, 3, none⟩ = some (.int .i64 x.k) := by rw [hw1]; first | (simp; done) | go_simp
  have ta1 := ta.keep e1 (by omega)
  have tb1 := tb.keep e1 (by omega)
  clear hw1
  refine (withinI_yes o l h _ x.a n _ ta1 (by omega) ha).mono ?_; rintro e w2 ⟨rfl, f2⟩
  have b2 := b1.trans (f2.mono (by omega))
  have z2 := f2.size
  have ci2 := cell_keep f2 ci1
  have ca2 := cell_keep f2 ca1
  have cb2 := cell_keep f2 cb1
  have ck2 := cell_keep f2 ck1
  have ta2 := ta1.keep f2 (by omega)
  have tb2 := tb1.keep f2 (by omega)
  clear ci1 ca1 cb1 ck1 ta1 tb1
  have lci2 : w.heap.size < w2.heap.size := World.block_lt_of_cell? _ _ ci2
  go_wp2_with fail
  refine name_call fun w3 hw3 => ?_
  have b3 : Below w.heap.size w w3 := by rw [hw3]; (repeat (with_reducible first | exact bR _ _ | assumption | refine bD ?_ | refine bN ?_ _ | refine bA ?_ _ | refine bS ?_ _))
  have z3 : w2.heap.size + 0 ≤ w3.heap.size := by rw [hw3]; simp
  have e3 : Below w2.heap.size w2 w3 := by rw [hw3]; (repeat (with_reducible first | exact bR _ _ | assumption | refine bD ?_ | refine bN ?_ _ | refine bA ?_ _ | refine bS ?_ _))
  have ci3 := cell_keep e3 ci2
  have ca3 := cell_keep e3 ca2
  have cb3 := cell_keep e3 cb2
  have ck3 := cell_keep e3 ck2
  have ta3 := ta2.keep e3 (by omega)
  have tb3 := tb2.keep e3 (by omega)
  clear hw3 lci2 ci2 ca2 cb2 ck2 ta2 tb2
  refine (withinI_yes o l h _ x.b n _ tb3 (by omega) hb).mono ?_; rintro e w4 ⟨rfl, f4⟩
  have b4 := b3.trans (f4.mono (by omega))
  have z4 := f4.size
  have ci4 := cell_keep f4 ci3
  have ca4 := cell_keep f4 ca3
  have cb4 := cell_keep f4 cb3
  have ck4 := cell_keep f4 ck3
  have ta4 := ta3.keep f4 (by omega)
  have tb4 := tb3.keep f4 (by omega)
  clear ci3 ca3 cb3 ck3 ta3 tb3
  go_wp2_with fail
  go_ret
  exact ⟨ret_bool (by rw [HR.out]; by_cases u : x.k = 0 <;> simp [u]), b4⟩
 by_cases q1 : x.kind = 1
 ·have p0 : (x.kind == 0) = false := by simpa using q0
  have p3 : (x.kind == 3) = false := by simpa using q3
  have p1 : (x.kind == 1) = true := by simp [q1]
  have HR : Hid (hintW n x = decide (x.b.length = 0 ∧ 0 ≤ x.k ∧ x.k ≤ 30)) := Lib.hid (by rw [HK.out]; unfold kindOk; rw [decide_eq_decide]; omega)
  clear q0 q3 q1
  by_cases s0 : x.b.length = 0
  ·have s1 : ((x.b.length : Int) == 0) = true := by simp [s0]
   have HS : Hid (hintW n x = decide (0 ≤ x.k ∧ x.k ≤ 30)) := Lib.hid (by rw [HR.out, decide_eq_decide]; omega)
   clear s0
   by_cases u0 : 0 ≤ x.k
   case' neg =>
    have HT : Hid (hintW n x = false) := Lib.hid (by rw [HS.out]; exact decide_eq_false (by omega))
    go_enter Tryz.func88, Tryz.ntmps88
    go_wp2_with fail
    refine name_call fun w1 hw1 => ?_
    have b1 : Below w.heap.size w w1 := by rw [hw1]; (repeat (with_reducible first | exact bR _ _ | assumption | refine bD ?_ | refine bN ?_ _ | refine bA ?_ _ | refine bS ?_ _))
    have z1 : w.heap.size + 1 ≤ w1.heap.size := by rw [hw1]; simp
    have e1 : Below w.heap.size w w1 := by rw [hw1]; (repeat (with_reducible first | exact bR _ _ | assumption | refine bD ?_ | refine bN ?_ _ | refine bA ?_ _ | refine bS ?_ _))
    have ci1 : w1.cell? ⟨w.heap.size, 0, none⟩ = some (.int .i64 x.kind) := by rw [hw1]; first | (simp; done) | go_simp
    have ca1 : w1.cell? ⟨w.heap.size, 1, none⟩ = some (.slice aa x.a.length ka) := by rw [hw1]; first | (simp; done) | go_simp
    have cb1 : w1.cell? ⟨w.heap.size, 2, none⟩ = some (.slice ab x.b.length kb) := by rw [hw1]; first | (simp; done) | go_simp
    have ck1 : w1.cell? ⟨w.heap.size, 3, none⟩ = some (.int .i64 x.k) := by rw [hw1]; first | (simp; done) | go_simp
    have ta1 := ta.keep e1 (by omega)
    have tb1 := tb.keep e1 (by omega)
    clear hw1
    refine (withinI_yes o l h _ x.a n _ ta1 (by omega) ha).mono ?_; rintro e w2 ⟨rfl, f2⟩
    have b2 := b1.trans (f2.mono (by omega))
    have z2 := f2.size
    have ci2 := cell_keep f2 ci1
    have ca2 := cell_keep f2 ca1
    have cb2 := cell_keep f2 cb1
    have ck2 := cell_keep f2 ck1
    have ta2 := ta1.keep f2 (by omega)
    have tb2 := tb1.keep f2 (by omega)
    clear ci1 ca1 cb1 ck1 ta1 tb1
    have lci2 : w.heap.size < w2.heap.size := World.block_lt_of_cell? _ _ ci2
    go_wp2_with fail
    refine name_call fun w3 hw3 => ?_
    have b3 : Below w.heap.size w w3 := by rw [hw3]; (repeat (with_reducible first | exact bR _ _ | assumption | refine bD ?_ | refine bN ?_ _ | refine bA ?_ _ | refine bS ?_ _))
    have z3 : w2.heap.size + 0 ≤ w3.heap.size := by rw [hw3]; simp
    have e3 : Below w2.heap.size w2 w3 := by rw [hw3]; (repeat (with_reducible first | exact bR _ _ | assumption | refine bD ?_ | refine bN ?_ _ | refine bA ?_ _ | refine bS ?_ _))
    have ci3 := cell_keep e3 ci2
    have ca3 := cell_keep e3 ca2
    have cb3 := cell_keep e3 cb2
    have ck3 := cell_keep e3 ck2
    have ta3 := ta2.keep e3 (by omega)
    have tb3 := tb2.keep e3 (by omega)
    clear hw3 lci2 ci2 ca2 cb2 ck2 ta2 tb2
    refine (withinI_yes o l h _ x.b n _ tb3 (by omega) hb).mono ?_; rintro e w4 ⟨rfl, f4⟩
    have b4 := b3.trans (f4.mono (by omega))
    have z4 := f4.size
    have ci4 := cell_keep f4 ci3
    have ca4 := cell_keep f4 ca3
    have cb4 := cell_keep f4 cb3
    have ck4 := cell_keep f4 ck3
    have ta4 := ta3.keep f4 (by omega)
    have tb4 := tb3.keep f4 (by omega)
    clear ci3 ca3 cb3 ck3 ta3 tb3
    go_wp2_with fail
    go_ret
    first | exact ⟨ret_bool HT.out.symm, b4⟩ | exact ⟨ret_bool (by rw [HT.out]; simp; omega), b4⟩
   by_cases u1 : x.k ≤ 30
   case' neg =>
    have HT : Hid (hintW n x = false) := Lib.hid (by rw [HS.out]; exact decide_eq_false (by omega))
    go_enter Tryz.func88, Tryz.ntmps88
    go_wp2_with fail
    refine name_call fun w1 hw1 => ?_
    have b1 : Below w.heap.size w w1 := by rw [hw1]; (repeat (with_reducible first | exact bR _ _ | assumption | refine bD ?_ | refine bN ?_ _ | refine bA ?_ _ | refine bS ?_ _))
    have z1 : w.heap.size + 1 ≤ w1.heap.size := by rw [hw1]; simp
    have e1 : Below w.heap.size w w1 := by rw [hw1]; (repeat (with_reducible first | exact bR _ _ | assumption | refine bD ?_ | refine bN ?_ _ | refine bA ?_ _ | refine bS ?_ _))
    have ci1 : w1.cell? ⟨w.heap.size, 0, none⟩ = some (.int .i64 x.kind) := by rw [hw1]; first | (simp; done) | go_simp
    have ca1 : w1.cell? ⟨w.heap.size, 1, none⟩ = some (.slice aa x.a.length ka) := by rw [hw1]; first | (simp; done) | go_simp
    have cb1 : w1.cell? ⟨w.heap.size, 2, none⟩ = some (.slice ab x.b.length kb) := by rw [hw1]; first | (simp; done) | go_simp
    have ck1 : w1.cell? ⟨w.heap.size, 3, none⟩ = some (.int .i64 x.k) := by rw [hw1]; first | (simp; done) | go_simp
    have ta1 := ta.keep e1 (by omega)
    have tb1 := tb.keep e1 (by omega)
    clear hw1
    refine (withinI_yes o l h _ x.a n _ ta1 (by omega) ha).mono ?_; rintro e w2 ⟨rfl, f2⟩
    have b2 := b1.trans (f2.mono (by omega))
    have z2 := f2.size
    have ci2 := cell_keep f2 ci1
    have ca2 := cell_keep f2 ca1
    have cb2 := cell_keep f2 cb1
    have ck2 := cell_keep f2 ck1
    have ta2 := ta1.keep f2 (by omega)
    have tb2 := tb1.keep f2 (by omega)
    clear ci1 ca1 cb1 ck1 ta1 tb1
    have lci2 : w.heap.size < w2.heap.size := World.block_lt_of_cell? _ _ ci2
    go_wp2_with fail
    refine name_call fun w3 hw3 => ?_
    have b3 : Below w.heap.size w w3 := by rw [hw3]; (repeat (with_reducible first | exact bR _ _ | assumption | refine bD ?_ | refine bN ?_ _ | refine bA ?_ _ | refine bS ?_ _))
    have z3 : w2.heap.size + 0 ≤ w3.heap.size := by rw [hw3]; simp
    have e3 : Below w2.heap.size w2 w3 := by rw [hw3]; (repeat (with_reducible first | exact bR _ _ | assumption | refine bD ?_ | refine bN ?_ _ | refine bA ?_ _ | refine bS ?_ _))
    have ci3 := cell_keep e3 ci2
    have ca3 := cell_keep e3 ca2
    have cb3 := cell_keep e3 cb2
    have ck3 := cell_keep e3 ck2
    have ta3 := ta2.keep e3 (by omega)
    have tb3 := tb2.keep e3 (by omega)
    clear hw3 lci2 ci2 ca2 cb2 ck2 ta2 tb2
    refine (withinI_yes o l h _ x.b n _ tb3 (by omega) hb).mono ?_; rintro e w4 ⟨rfl, f4⟩
    have b4 := b3.trans (f4.mono (by omega))
    have z4 := f4.size
    have ci4 := cell_keep f4 ci3
    have ca4 := cell_keep f4 ca3
    have cb4 := cell_keep f4 cb3
    have ck4 := cell_keep f4 ck3
    have ta4 := ta3.keep f4 (by omega)
    have tb4 := tb3.keep f4 (by omega)
    clear ci3 ca3 cb3 ck3 ta3 tb3
    go_wp2_with fail
    go_ret
    first | exact ⟨ret_bool HT.out.symm, b4⟩ | exact ⟨ret_bool (by rw [HT.out]; simp; omega), b4⟩
   have HT : Hid (hintW n x = true) := Lib.hid (by rw [HS.out]; exact decide_eq_true ⟨u0, u1⟩)
   go_enter Tryz.func88, Tryz.ntmps88
   go_wp2_with fail
   refine name_call fun w1 hw1 => ?_
   have b1 : Below w.heap.size w w1 := by rw [hw1]; (repeat (with_reducible first | exact bR _ _ | assumption | refine bD ?_ | refine bN ?_ _ | refine bA ?_ _ | refine bS ?_ _))
   have z1 : w.heap.size + 1 ≤ w1.heap.size := by rw [hw1]; simp
   have e1 : Below w.heap.size w w1 := by rw [hw1]; (repeat (with_reducible first | exact bR _ _ | assumption | refine bD ?_ | refine bN ?_ _ | refine bA ?_ _ | refine bS ?_ _))
   have ci1 : w1.cell? ⟨w.heap.size, 0, none⟩ = some (.int .i64 x.kind) := by rw [hw1]; first | (simp; done) | go_simp
   have ca1 : w1.cell? ⟨w.heap.size, 1, none⟩ = some (.slice aa x.a.length ka) := by rw [hw1]; first | (simp; done) | go_simp
   have cb1 : w1.cell? ⟨w.heap.size, 2, none⟩ = some (.slice ab x.b.length kb) := by rw [hw1]; first | (simp; done) | go_simp
   have ck1 : w1.cell? ⟨w.heap.size, 3, none⟩ = some (.int .i64 x.k) := by rw [hw1]; first | (simp; done) | go_simp
   have ta1 := ta.keep e1 (by omega)
   have tb1 := tb.keep e1 (by omega)
   clear hw1
   refine (withinI_yes o l h _ x.a n _ ta1 (by omega) ha).mono ?_; rintro e w2 ⟨rfl, f2⟩
   have b2 := b1.trans (f2.mono (by omega))
   have z2 := f2.size
   have ci2 := cell_keep f2 ci1
   have ca2 := cell_keep f2 ca1
   have cb2 := cell_keep f2 cb1
   have ck2 := cell_keep f2 ck1
   have ta2 := ta1.keep f2 (by omega)
   have tb2 := tb1.keep f2 (by omega)
   clear ci1 ca1 cb1 ck1 ta1 tb1
   have lci2 : w.heap.size < w2.heap.size := World.block_lt_of_cell? _ _ ci2
   go_wp2_with fail
   refine name_call fun w3 hw3 => ?_
   have b3 : Below w.heap.size w w3 := by rw [hw3]; (repeat (with_reducible first | exact bR _ _ | assumption | refine bD ?_ | refine bN ?_ _ | refine bA ?_ _ | refine bS ?_ _))
   have z3 : w2.heap.size + 0 ≤ w3.heap.size := by rw [hw3]; simp
   have e3 : Below w2.heap.size w2 w3 := by rw [hw3]; (repeat (with_reducible first | exact bR _ _ | assumption | refine bD ?_ | refine bN ?_ _ | refine bA ?_ _ | refine bS ?_ _))
   have ci3 := cell_keep e3 ci2
   have ca3 := cell_keep e3 ca2
   have cb3 := cell_keep e3 cb2
   have ck3 := cell_keep e3 ck2
   have ta3 := ta2.keep e3 (by omega)
   have tb3 := tb2.keep e3 (by omega)
   clear hw3 lci2 ci2 ca2 cb2 ck2 ta2 tb2
   refine (withinI_yes o l h _ x.b n _ tb3 (by omega) hb).mono ?_; rintro e w4 ⟨rfl, f4⟩
   have b4 := b3.trans (f4.mono (by omega))
   have z4 := f4.size
   have ci4 := cell_keep f4 ci3
   have ca4 := cell_keep f4 ca3
   have cb4 := cell_keep f4 cb3
   have ck4 := cell_keep f4 ck3
   have ta4 := ta3.keep f4 (by omega)
   have tb4 := tb3.keep f4 (by omega)
   clear ci3 ca3 cb3 ck3 ta3 tb3
   go_wp2_with fail
   go_ret
   exact ⟨ret_bool HT.out.symm, b4⟩
  ·have s1 : ((x.b.length : Int) == 0) = false := by simp [s0]
   have HS : Hid (hintW n x = false) := Lib.hid (by rw [HR.out, decide_eq_false_iff_not]; omega)
   clear s0
   go_enter Tryz.func88, Tryz.ntmps88
   go_wp2_with fail
   refine name_call fun w1 hw1 => ?_
   have b1 : Below w.heap.size w w1 := by rw [hw1]; (repeat (with_reducible first | exact bR _ _ | assumption | refine bD ?_ | refine bN ?_ _ | refine bA ?_ _ | refine bS ?_ _))
   have z1 : w.heap.size + 1 ≤ w1.heap.size := by rw [hw1]; simp
   have e1 : Below w.heap.size w w1 := by rw [hw1]; (repeat (with_reducible first | exact bR _ _ | assumption | refine bD ?_ | refine bN ?_ _ | refine bA ?_ _ | refine bS ?_ _))
   have ci1 : w1.cell? ⟨w.heap.size, 0, none⟩ = some (.int .i64 x.kind) := by rw [hw1]; first | (simp; done) | go_simp
   have ca1 : w1.cell? ⟨w.heap.size, 1, none⟩ = some (.slice aa x.a.length ka) := by rw [hw1]; first | (simp; done) | go_simp
   have cb1 : w1.cell? ⟨w.heap.size, 2, none⟩ = some (.slice ab x.b.length kb) := by rw [hw1]; first | (simp; done) | go_simp
   have ck1 : w1.cell? ⟨w.heap.size, 3, none⟩ = some (.int .i64 x.k) := by rw [hw1]; first | (simp; done) | go_simp
   have ta1 := ta.keep e1 (by omega)
   have tb1 := tb.keep e1 (by omega)
   clear hw1
   refine (withinI_yes o l h _ x.a n _ ta1 (by omega) ha).mono ?_; rintro e w2 ⟨rfl, f2⟩
   have b2 := b1.trans (f2.mono (by omega))
   have z2 := f2.size
   have ci2 := cell_keep f2 ci1
   have ca2 := cell_keep f2 ca1
   have cb2 := cell_keep f2 cb1
   have ck2 := cell_keep f2 ck1
   have ta2 := ta1.keep f2 (by omega)
   have tb2 := tb1.keep f2 (by omega)
   clear ci1 ca1 cb1 ck1 ta1 tb1
   have lci2 : w.heap.size < w2.heap.size := World.block_lt_of_cell? _ _ ci2
   go_wp2_with fail
   refine name_call fun w3 hw3 => ?_
   have b3 : Below w.heap.size w w3 := by rw [hw3]; (repeat (with_reducible first | exact bR _ _ | assumption | refine bD ?_ | refine bN ?_ _ | refine bA ?_ _ | refine bS ?_ _))
   have z3 : w2.heap.size + 0 ≤ w3.heap.size := by rw [hw3]; simp
   have e3 : Below w2.heap.size w2 w3 := by rw [hw3]; (repeat (with_reducible first | exact bR _ _ | assumption | refine bD ?_ | refine bN ?_ _ | refine bA ?_ _ | refine bS ?_ _))
   have ci3 := cell_keep e3 ci2
   have ca3 := cell_keep e3 ca2
   have cb3 := cell_keep e3 cb2
   have ck3 := cell_keep e3 ck2
   have ta3 := ta2.keep e3 (by omega)
   have tb3 := tb2.keep e3 (by omega)
   clear hw3 lci2 ci2 ca2 cb2 ck2 ta2 tb2
   refine (withinI_yes o l h _ x.b n _ tb3 (by omega) hb).mono ?_; rintro e w4 ⟨rfl, f4⟩
   have b4 := b3.trans (f4.mono (by omega))
   have z4 := f4.size
   have ci4 := cell_keep f4 ci3
   have ca4 := cell_keep f4 ca3
   have cb4 := cell_keep f4 cb3
   have ck4 := cell_keep f4 ck3
   have ta4 := ta3.keep f4 (by omega)
   have tb4 := tb3.keep f4 (by omega)
   clear ci3 ca3 cb3 ck3 ta3 tb3
   go_wp2_with fail
   go_ret
   exact ⟨ret_bool (by rw [HS.out]), b4⟩
 by_cases q2 : x.kind = 2
 ·have p0 : (x.kind == 0) = false := by simpa using q0
  have p3 : (x.kind == 3) = false := by simpa using q3
  have p1 : (x.kind == 1) = false := by simpa using q1
  have p2 : (x.kind == 2) = true := by simp [q2]
  have HR : Hid (hintW n x = decide (x.b.length = 0 ∧ x.k = 0)) := Lib.hid (by rw [HK.out]; unfold kindOk; rw [decide_eq_decide]; omega)
  clear q0 q3 q1 q2
  by_cases s0 : x.b.length = 0
  ·have s1 : ((x.b.length : Int) == 0) = true := by simp [s0]
   have HS : Hid (hintW n x = decide (x.k = 0)) := Lib.hid (by rw [HR.out, decide_eq_decide]; omega)
   clear s0
   go_enter Tryz.func88, Tryz.ntmps88
   go_wp2_with fail
   refine name_call fun w1 hw1 => ?_
   have b1 : Below w.heap.size w w1 := by rw [hw1]; (repeat (with_reducible first | exact bR _ _ | assumption | refine bD ?_ | refine bN ?_ _ | refine bA ?_ _ | refine bS ?_ _))
   have z1 : w.heap.size + 1 ≤ w1.heap.size := by rw [hw1]; simp
   have e1 : Below w.heap.size w w1 := by rw [hw1]; (repeat (with_reducible first | exact bR _ _ | assumption | refine bD ?_ | refine bN ?_ _ | refine bA ?_ _ | refine bS ?_ _))
   have ci1 : w1.cell? ⟨w.heap.size, 0, none⟩ = some (.int .i64 x.kind) := by rw [hw1]; first | (simp; done) | go_simp
   have ca1 : w1.cell? ⟨w.heap.size, 1, none⟩ = some (.slice aa x.a.length ka) := by rw [hw1]; first | (simp; done) | go_simp
   have cb1 : w1.cell? ⟨w.heap.size, 2, none⟩ = some (.slice ab x.b.length kb) := by rw [hw1]; first | (simp; done) | go_simp
   have ck1 : w1.cell? ⟨w.heap.size, 3, none⟩ = some (.int .i64 x.k) := by rw [hw1]; first | (simp; done) | go_simp
   have ta1 := ta.keep e1 (by omega)
   have tb1 := tb.keep e1 (by omega)
   clear hw1
   refine (withinI_yes o l h _ x.a n _ ta1 (by omega) ha).mono ?_; rintro e w2 ⟨rfl, f2⟩
   have b2 := b1.trans (f2.mono (by omega))
   have z2 := f2.size
   have ci2 := cell_keep f2 ci1
   have ca2 := cell_keep f2 ca1
   have cb2 := cell_keep f2 cb1
   have ck2 := cell_keep f2 ck1
   have ta2 := ta1.keep f2 (by omega)
   have tb2 := tb1.keep f2 (by omega)
   clear ci1 ca1 cb1 ck1 ta1 tb1
   have lci2 : w.heap.size < w2.heap.size := World.block_lt_of_cell? _ _ ci2
   go_wp2_with fail
   refine name_call fun w3 hw3 => ?_
   have b3 : Below w.heap.size w w3 := by rw [hw3]; (repeat (with_reducible first | exact bR _ _ | assumption | refine bD ?_ | refine bN ?_ _ | refine bA ?_ _ | refine bS ?_ _))
   have z3 : w2.heap.size + 0 ≤ w3.heap.size := by rw [hw3]; simp
   have e3 : Below w2.heap.size w2 w3 := by rw [hw3]; (repeat (with_reducible first | exact bR _ _ | assumption | refine bD ?_ | refine bN ?_ _ | refine bA ?_ _ | refine bS ?_ _))
   have ci3 := cell_keep e3 ci2
   have ca3 := cell_keep e3 ca2
   have cb3 := cell_keep e3 cb2
   have ck3 := cell_keep e3 ck2
   have ta3 := ta2.keep e3 (by omega)
   have tb3 := tb2.keep e3 (by omega)
   clear hw3 lci2 ci2 ca2 cb2 ck2 ta2 tb2
   refine (withinI_yes o l h _ x.b n _ tb3 (by omega) hb).mono ?_; rintro e w4 ⟨rfl, f4⟩
   have b4 := b3.trans (f4.mono (by omega))
   have z4 := f4.size
   have ci4 := cell_keep f4 ci3
   have ca4 := cell_keep f4 ca3
   have cb4 := cell_keep f4 cb3
   have ck4 := cell_keep f4 ck3
   have ta4 := ta3.keep f4 (by omega)
   have tb4 := tb3.keep f4 (by omega)
   clear ci3 ca3 cb3 ck3 ta3 tb3
   go_wp2_with fail
   go_ret
   exact ⟨ret_bool (by rw [HS.out]; by_cases u : x.k = 0 <;> simp [u]), b4⟩
  ·have s1 : ((x.b.length : Int) == 0) = false := by simp [s0]
   have HS : Hid (hintW n x = false) := Lib.hid (by rw [HR.out, decide_eq_false_iff_not]; omega)
   clear s0
   go_enter Tryz.func88, Tryz.ntmps88
   go_wp2_with fail
   refine name_call fun w1 hw1 => ?_
   have b1 : Below w.heap.size w w1 := by rw [hw1]; (repeat (with_reducible first | exact bR _ _ | assumption | refine bD ?_ | refine bN ?_ _ | refine bA ?_ _ | refine bS ?_ _))
   have z1 : w.heap.size + 1 ≤ w1.heap.size := by rw [hw1]; simp
   have e1 : Below w.heap.size w w1 := by rw [hw1]; (repeat (with_reducible first | exact bR _ _ | assumption | refine bD ?_ | refine bN ?_ _ | refine bA ?_ _ | refine bS ?_ _))
   have ci1 : w1.cell? ⟨w.heap.size, 0, none⟩ = some (.int .i64 x.kind) := by rw [hw1]; first | (simp; done) | go_simp
   have ca1 : w1.cell? ⟨w.heap.size, 1, none⟩ = some (.slice aa x.a.length ka) := by rw [hw1]; first | (simp; done) | go_simp
   have cb1 : w1.cell? ⟨w.heap.size, 2, none⟩ = some (.slice ab x.b.length kb) := by rw [hw1]; first | (simp; done) | go_simp
   have ck1 : w1.cell? ⟨w.heap.size, 3, none⟩ = some (.int .i64 x.k) := by rw [hw1]; first | (simp; done) | go_simp
   have ta1 := ta.keep e1 (by omega)
   have tb1 := tb.keep e1 (by omega)
   clear hw1
   refine (withinI_yes o l h _ x.a n _ ta1 (by omega) ha).mono ?_; rintro e w2 ⟨rfl, f2⟩
   have b2 := b1.trans (f2.mono (by omega))
   have z2 := f2.size
   have ci2 := cell_keep f2 ci1
   have ca2 := cell_keep f2 ca1
   have cb2 := cell_keep f2 cb1
   have ck2 := cell_keep f2 ck1
   have ta2 := ta1.keep f2 (by omega)
   have tb2 := tb1.keep f2 (by omega)
   clear ci1 ca1 cb1 ck1 ta1 tb1
   have lci2 : w.heap.size < w2.heap.size := World.block_lt_of_cell? _ _ ci2
   go_wp2_with fail
   refine name_call fun w3 hw3 => ?_
   have b3 : Below w.heap.size w w3 := by rw [hw3]; (repeat (with_reducible first | exact bR _ _ | assumption | refine bD ?_ | refine bN ?_ _ | refine bA ?_ _ | refine bS ?_ _))
   have z3 : w2.heap.size + 0 ≤ w3.heap.size := by rw [hw3]; simp
   have e3 : Below w2.heap.size w2 w3 := by rw [hw3]; (repeat (with_reducible first | exact bR _ _ | assumption | refine bD ?_ | refine bN ?_ _ | refine bA ?_ _ | refine bS ?_ _))
   have ci3 := cell_keep e3 ci2
   have ca3 := cell_keep e3 ca2
   have cb3 := cell_keep e3 cb2
   have ck3 := cell_keep e3 ck2
   have ta3 := ta2.keep e3 (by omega)
   have tb3 := tb2.keep e3 (by omega)
   clear hw3 lci2 ci2 ca2 cb2 ck2 ta2 tb2
   refine (withinI_yes o l h _ x.b n _ tb3 (by omega) hb).mono ?_; rintro e w4 ⟨rfl, f4⟩
   have b4 := b3.trans (f4.mono (by omega))
   have z4 := f4.size
   have ci4 := cell_keep f4 ci3
   have ca4 := cell_keep f4 ca3
   have cb4 := cell_keep f4 cb3
   have ck4 := cell_keep f4 ck3
   have ta4 := ta3.keep f4 (by omega)
   have tb4 := tb3.keep f4 (by omega)
   clear ci3 ca3 cb3 ck3 ta3 tb3
   go_wp2_with fail
   go_ret
   exact ⟨ret_bool (by rw [HS.out]), b4⟩
 ·have p0 : (x.kind == 0) = false := by simpa using q0
  have p3 : (x.kind == 3) = false := by simpa using q3
  have p1 : (x.kind == 1) = false := by simpa using q1
  have p2 : (x.kind == 2) = false := by simpa using q2
  have HR : Hid (hintW n x = false) := Lib.hid (by rw [HK.out]; unfold kindOk; rw [decide_eq_false_iff_not]; omega)
  clear q0 q3 q1 q2
  go_enter Tryz.func88, Tryz.ntmps88
  go_wp2_with fail
  refine name_call fun w1 hw1 => ?_
  have b1 : Below w.heap.size w w1 := by rw [hw1]; (repeat (with_reducible first | exact bR _ _ | assumption | refine bD ?_ | refine bN ?_ _ | refine bA ?_ _ | refine bS ?_ _))
  have z1 : w.heap.size + 1 ≤ w1.heap.size := by rw [hw1]; simp
  have e1 : Below w.heap.size w w1 := by rw [hw1]; (repeat (with_reducible first | exact bR _ _ | assumption | refine bD ?_ | refine bN ?_ _ | refine bA ?_ _ | refine bS ?_ _))
  have ci1 : w1.cell? ⟨w.heap.size, 0, none⟩ = some (.int .i64 x.kind) := by rw [hw1]; first | (simp; done) | go_simp
  have ca1 : w1.cell? ⟨w.heap.size, 1, none⟩ = some (.slice aa x.a.length ka) := by rw [hw1]; first | (simp; done) | go_simp
  have cb1 : w1.cell? ⟨w.heap.size, 2, none⟩ = some (.slice ab x.b.length kb) := by rw [hw1]; first | (simp; done) | go_simp
  have ck1 : w1.cell? ⟨w.heap.size, 3, none⟩ = some (.int .i64 x.k) := by rw [hw1]; first | (simp; done) | go_simp
  have ta1 := ta.keep e1 (by omega)
  have tb1 := tb.keep e1 (by omega)
  clear hw1
  refine (withinI_yes o l h _ x.a n _ ta1 (by omega) ha).mono ?_; rintro e w2 ⟨rfl, f2⟩
  have b2 := b1.trans (f2.mono (by omega))
  have z2 := f2.size
  have ci2 := cell_keep f2 ci1
  have ca2 := cell_keep f2 ca1
  have cb2 := cell_keep f2 cb1
  have ck2 := cell_keep f2 ck1
  have ta2 := ta1.keep f2 (by omega)
  have tb2 := tb1.keep f2 (by omega)
  clear ci1 ca1 cb1 ck1 ta1 tb1
  have lci2 : w.heap.size < w2.heap.size := World.block_lt_of_cell? _ _ ci2
  go_wp2_with fail
  refine name_call fun w3 hw3 => ?_
  have b3 : Below w.heap.size w w3 := by rw [hw3]; (repeat (with_reducible first | exact bR _ _ | assumption | refine bD ?_ | refine bN ?_ _ | refine bA ?_ _ | refine bS ?_ _))
  have z3 : w2.heap.size + 0 ≤ w3.heap.size := by rw [hw3]; simp
  have e3 : Below w2.heap.size w2 w3 := by rw [hw3]; (repeat (with_reducible first | exact bR _ _ | assumption | refine bD ?_ | refine bN ?_ _ | refine bA ?_ _ | refine bS ?_ _))
  have ci3 := cell_keep e3 ci2
  have ca3 := cell_keep e3 ca2
  have cb3 := cell_keep e3 cb2
  have ck3 := cell_keep e3 ck2
  have ta3 := ta2.keep e3 (by omega)
  have tb3 := tb2.keep e3 (by omega)
  clear hw3 lci2 ci2 ca2 cb2 ck2 ta2 tb2
  refine (withinI_yes o l h _ x.b n _ tb3 (by omega) hb).mono ?_; rintro e w4 ⟨rfl, f4⟩
  have b4 := b3.trans (f4.mono (by omega))
  have z4 := f4.size
  have ci4 := cell_keep f4 ci3
  have ca4 := cell_keep f4 ca3
  have cb4 := cell_keep f4 cb3
  have ck4 := cell_keep f4 ck3
  have ta4 := ta3.keep f4 (by omega)
  have tb4 := tb3.keep f4 (by omega)
  clear ci3 ca3 cb3 ck3 ta3 tb3
  go_wp2_with fail
  go_ret
  exact ⟨ret_bool (by rw [HR.out]), b4⟩
end Go.Proofs.YthipgpbapdambaaGreat.L

/- Valid systems: the program's SysOk. -/
namespace Go.Proofs.YthipgpbapdambaaGreat.L
open Go.RowKit Go.Proofs.YthipgpbapdambaaGreat.S
set_option linter.unusedVariables false
set_option linter.unusedSimpArgs false

def varsN (s : SysC) : Int := 1 + s.ins + s.hints.length
def limB (s : SysC) : Bool := decide (0 ≤ s.ins ∧ s.ins ≤ 100 ∧ s.outs.length ≤ 40 ∧ varsN s ≤ 3000 ∧ s.cons.length ≤ 4000)
def hintsB : Int → List HintC → Bool
 | _, [] => true
 | n, h :: r => hintW n h && hintsB (n + 1) r
def outsB (n : Int) (ls : List (List T)) : Bool := ls.all (linW n)
def consB (n : Int) (cs : List ConC) : Bool := cs.all (conW n)
def sysOk (s : SysC) : Bool := limB s && (hintsB (1 + s.ins) s.hints && (outsB (varsN s) s.outs && consB (varsN s) s.cons))

theorem hintsB_step {n : Int} {hs : List HintC} {k : Nat} (hk : k < hs.length) (h : hintW (n + k) hs[k] = true) : hintsB (n + k) (hs.drop k) = hintsB (n + (k + 1 : Nat)) (hs.drop (k + 1)) := by
 rw [List.drop_eq_getElem_cons hk, hintsB, h, Bool.true_and, show n + (k : Int) + 1 = n + (k + 1 : Nat) from by omega]
theorem hintsB_stop {n : Int} {hs : List HintC} {k : Nat} (hk : k < hs.length) (h : hintW (n + k) hs[k] = false) : hintsB (n + k) (hs.drop k) = false := by
 rw [List.drop_eq_getElem_cons hk, hintsB, h, Bool.false_and]
theorem all_step {α : Type} {f : α → Bool} {xs : List α} {k : Nat} (hk : k < xs.length) (h : f xs[k] = true) : (xs.drop k).all f = (xs.drop (k + 1)).all f := by
 rw [List.drop_eq_getElem_cons hk, List.all_cons, h, Bool.true_and]
theorem all_stop {α : Type} {f : α → Bool} {xs : List α} {k : Nat} (hk : k < xs.length) (h : f xs[k] = false) : (xs.drop k).all f = false := by
 rw [List.drop_eq_getElem_cons hk, List.all_cons, h, Bool.false_and]
theorem sysOk_lim {s : SysC} (h : limB s = false) : sysOk s = false := by simp [sysOk, h]
theorem sysOk_hints {s : SysC} (h : hintsB (1 + s.ins) s.hints = false) : sysOk s = false := by simp [sysOk, h]
theorem sysOk_outs {s : SysC} (h : outsB (varsN s) s.outs = false) : sysOk s = false := by simp [sysOk, h]
theorem sysOk_cons {s : SysC} (h : consB (varsN s) s.cons = false) : sysOk s = false := by simp [sysOk, h]
theorem sysOk_yes {s : SysC} (h1 : limB s = true) (h2 : hintsB (1 + s.ins) s.hints = true) (h3 : outsB (varsN s) s.outs = true) (h4 : consB (varsN s) s.cons = true) : sysOk s = true := by simp [sysOk, h1, h2, h3, h4]
theorem limB_facts {s : SysC} (h : limB s = true) : 0 ≤ s.ins ∧ s.ins ≤ 100 ∧ s.outs.length ≤ 40 ∧ 1 + s.ins + s.hints.length ≤ 3000 ∧ s.cons.length ≤ 4000 := of_decide_eq_true h
theorem sysOk_limB {s : SysC} (h : sysOk s = true) : limB s = true := by
 cases hl : limB s
 ·rw [sysOk_lim hl] at h; cases h
 ·rfl

set_option maxRecDepth 100000 in
theorem vars_any (s : SysC) (ao ko ah kh ac kc) (w : World) (i0 : 0 ≤ s.ins) (i1 : s.ins ≤ 100) (hn : s.hints.length ≤ 1048576) :
  Calls Tryz.prog 56 #[.agg #[.int .i64 s.ins, .slice ao s.outs.length ko, .slice ah s.hints.length kh, .slice ac s.cons.length kc]] w fun e w' => e = .returned (.int .i64 (1 + s.ins + s.hints.length)) ∧ Below w.heap.size w w' := by
 go_enter Tryz.func56, Tryz.ntmps56
 go_wp2_with fail
 go_ret
 exact ⟨rfl, by (repeat (with_reducible first | exact bR _ _ | assumption | refine bD ?_ | refine bN ?_ _ | refine bA ?_ _ | refine bS ?_ _))⟩

set_option maxRecDepth 100000 in
set_option maxHeartbeats 1600000 in
theorem limits_no (s : SysC) (ao ko ah kh ac kc) (w : World) (hn : s.hints.length ≤ 1048576) (lo : s.outs.length ≤ 1048576) (lc : s.cons.length ≤ 1048576) (hl : limB s = false) :
  Calls Tryz.prog 87 #[.agg #[.int .i64 s.ins, .slice ao s.outs.length ko, .slice ah s.hints.length kh, .slice ac s.cons.length kc]] w fun e w' => e = .returned (.bool false) ∧ Below w.heap.size w w' := by
 have hl' := of_decide_eq_false hl
 unfold varsN at hl'
 have cs : (s.ins < 0) ∨ (0 ≤ s.ins ∧ 100 < s.ins) ∨ (0 ≤ s.ins ∧ s.ins ≤ 100 ∧ 40 < s.outs.length) ∨ (0 ≤ s.ins ∧ s.ins ≤ 100 ∧ s.outs.length ≤ 40 ∧ 3000 < 1 + s.ins + s.hints.length) ∨ (0 ≤ s.ins ∧ s.ins ≤ 100 ∧ s.outs.length ≤ 40 ∧ 1 + s.ins + s.hints.length ≤ 3000 ∧ 4000 < s.cons.length) := by omega
 clear hl hl'
 rcases cs with h1 | ⟨h1, h2⟩ | ⟨h1, h2, h3⟩ | ⟨h1, h2, h3, h4⟩ | ⟨h1, h2, h3, h4, h5⟩
 ·go_enter Tryz.func87, Tryz.ntmps87
  go_wp2_with fail
  go_ret
  exact ⟨rfl, by (repeat (with_reducible first | exact bR _ _ | assumption | refine bD ?_ | refine bN ?_ _ | refine bA ?_ _ | refine bS ?_ _))⟩
 ·go_enter Tryz.func87, Tryz.ntmps87
  go_wp2_with fail
  go_ret
  exact ⟨rfl, by (repeat (with_reducible first | exact bR _ _ | assumption | refine bD ?_ | refine bN ?_ _ | refine bA ?_ _ | refine bS ?_ _))⟩
 ·go_enter Tryz.func87, Tryz.ntmps87
  go_wp2_with fail
  go_ret
  exact ⟨rfl, by (repeat (with_reducible first | exact bR _ _ | assumption | refine bD ?_ | refine bN ?_ _ | refine bA ?_ _ | refine bS ?_ _))⟩
 ·go_enter Tryz.func87, Tryz.ntmps87
  go_wp2_with fail
  refine name_call fun w1 hw1 => ?_
  have b1 : Below w.heap.size w w1 := by rw [hw1]; (repeat (with_reducible first | exact bR _ _ | assumption | refine bD ?_ | refine bN ?_ _ | refine bA ?_ _ | refine bS ?_ _))
  have z1 : w.heap.size + 1 ≤ w1.heap.size := by rw [hw1]; simp
  have cI1 : w1.cell? ⟨w.heap.size, 0, none⟩ = some (.int .i64 s.ins) := by rw [hw1]; first | (simp; done) | go_simp
  have cO1 : w1.cell? ⟨w.heap.size, 1, none⟩ = some (.slice ao s.outs.length ko) := by rw [hw1]; first | (simp; done) | go_simp
  have cH1 : w1.cell? ⟨w.heap.size, 2, none⟩ = some (.slice ah s.hints.length kh) := by rw [hw1]; first | (simp; done) | go_simp
  have cC1 : w1.cell? ⟨w.heap.size, 3, none⟩ = some (.slice ac s.cons.length kc) := by rw [hw1]; first | (simp; done) | go_simp
  clear hw1
  refine (vars_any s ao ko ah kh ac kc _ h1 h2 hn).mono ?_; rintro e w2 ⟨rfl, f2⟩
  have b2 := b1.trans (f2.mono (by omega))
  have z2 := f2.size
  have cI2 := cell_keep f2 cI1
  have cO2 := cell_keep f2 cO1
  have cH2 := cell_keep f2 cH1
  have cC2 := cell_keep f2 cC1
  clear cI1 cO1 cH1 cC1
  go_wp2_with fail
  go_ret
  first | exact ⟨rfl, b2⟩ | exact ⟨ret_bool (by simp; omega), b2⟩
 ·go_enter Tryz.func87, Tryz.ntmps87
  go_wp2_with fail
  refine name_call fun w1 hw1 => ?_
  have b1 : Below w.heap.size w w1 := by rw [hw1]; (repeat (with_reducible first | exact bR _ _ | assumption | refine bD ?_ | refine bN ?_ _ | refine bA ?_ _ | refine bS ?_ _))
  have z1 : w.heap.size + 1 ≤ w1.heap.size := by rw [hw1]; simp
  have cI1 : w1.cell? ⟨w.heap.size, 0, none⟩ = some (.int .i64 s.ins) := by rw [hw1]; first | (simp; done) | go_simp
  have cO1 : w1.cell? ⟨w.heap.size, 1, none⟩ = some (.slice ao s.outs.length ko) := by rw [hw1]; first | (simp; done) | go_simp
  have cH1 : w1.cell? ⟨w.heap.size, 2, none⟩ = some (.slice ah s.hints.length kh) := by rw [hw1]; first | (simp; done) | go_simp
  have cC1 : w1.cell? ⟨w.heap.size, 3, none⟩ = some (.slice ac s.cons.length kc) := by rw [hw1]; first | (simp; done) | go_simp
  clear hw1
  refine (vars_any s ao ko ah kh ac kc _ h1 h2 hn).mono ?_; rintro e w2 ⟨rfl, f2⟩
  have b2 := b1.trans (f2.mono (by omega))
  have z2 := f2.size
  have cI2 := cell_keep f2 cI1
  have cO2 := cell_keep f2 cO1
  have cH2 := cell_keep f2 cH1
  have cC2 := cell_keep f2 cC1
  clear cI1 cO1 cH1 cC1
  go_wp2_with fail
  go_ret
  first | exact ⟨rfl, b2⟩ | exact ⟨ret_bool (by simp; omega), b2⟩

set_option maxRecDepth 100000 in
set_option maxHeartbeats 1600000 in
theorem limits_yes (s : SysC) (ao ko ah kh ac kc) (w : World) (hl : limB s = true) :
  Calls Tryz.prog 87 #[.agg #[.int .i64 s.ins, .slice ao s.outs.length ko, .slice ah s.hints.length kh, .slice ac s.cons.length kc]] w fun e w' => e = .returned (.bool true) ∧ Below w.heap.size w w' := by
 obtain ⟨h1, h2, h3, h4, h5⟩ := limB_facts hl
 have hn : s.hints.length ≤ 1048576 := by omega
 clear hl
 go_enter Tryz.func87, Tryz.ntmps87
 go_wp2_with fail
 refine name_call fun w1 hw1 => ?_
 have b1 : Below w.heap.size w w1 := by rw [hw1]; (repeat (with_reducible first | exact bR _ _ | assumption | refine bD ?_ | refine bN ?_ _ | refine bA ?_ _ | refine bS ?_ _))
 have z1 : w.heap.size + 1 ≤ w1.heap.size := by rw [hw1]; simp
 have cI1 : w1.cell? ⟨w.heap.size, 0, none⟩ = some (.int .i64 s.ins) := by rw [hw1]; first | (simp; done) | go_simp
 have cO1 : w1.cell? ⟨w.heap.size, 1, none⟩ = some (.slice ao s.outs.length ko) := by rw [hw1]; first | (simp; done) | go_simp
 have cH1 : w1.cell? ⟨w.heap.size, 2, none⟩ = some (.slice ah s.hints.length kh) := by rw [hw1]; first | (simp; done) | go_simp
 have cC1 : w1.cell? ⟨w.heap.size, 3, none⟩ = some (.slice ac s.cons.length kc) := by rw [hw1]; first | (simp; done) | go_simp
 clear hw1
 refine (vars_any s ao ko ah kh ac kc _ h1 h2 hn).mono ?_; rintro e w2 ⟨rfl, f2⟩
 have b2 := b1.trans (f2.mono (by omega))
 have z2 := f2.size
 have cI2 := cell_keep f2 cI1
 have cO2 := cell_keep f2 cO1
 have cH2 := cell_keep f2 cH1
 have cC2 := cell_keep f2 cC1
 clear cI1 cO1 cH1 cC1
 go_wp2_with fail
 go_ret
 first | exact ⟨rfl, b2⟩ | exact ⟨ret_bool (by simp; omega), b2⟩

set_option maxRecDepth 100000 in
set_option maxHeartbeats 6400000 in
theorem sysOk_impl (o l h vi vo vh vc) (s : SysC) (w : World) (t : SysR o l h w vi vo vh vc s) (hw : h ≤ w.heap.size) (nh : s.hints.length ≤ 1048576) (no : s.outs.length ≤ 1048576) (nc : s.cons.length ≤ 1048576) :
  Calls Tryz.prog 43 #[.agg #[vi, vo, vh, vc]] w fun e w' => e = .returned (.bool (sysOk s)) ∧ Below w.heap.size w w' := by
 obtain ⟨tO, tH, tC⟩ := t.parts
 obtain ⟨ao, ko, ah, kh, ac, kc, rfl, rfl, rfl, rfl, lo, bo, lh, bh, lc, bc, fi⟩ := t.shape
 clear t
 cases hl : limB s
 ·have HR := Lib.hid (sysOk_lim hl)
  go_enter Tryz.func43, Tryz.ntmps43
  go_wp2_with fail
  refine name_call fun w1 hw1 => ?_
  have b1 : Below w.heap.size w w1 := by rw [hw1]; (repeat (with_reducible first | exact bR _ _ | assumption | refine bD ?_ | refine bN ?_ _ | refine bA ?_ _ | refine bS ?_ _))
  have z1 : w.heap.size + 1 ≤ w1.heap.size := by rw [hw1]; simp
  have cI1 : w1.cell? ⟨w.heap.size, 0, none⟩ = some (.int .i64 s.ins) := by rw [hw1]; first | (simp; done) | go_simp
  have cO1 : w1.cell? ⟨w.heap.size, 1, none⟩ = some (.slice ao s.outs.length ko) := by rw [hw1]; first | (simp; done) | go_simp
  have cH1 : w1.cell? ⟨w.heap.size, 2, none⟩ = some (.slice ah s.hints.length kh) := by rw [hw1]; first | (simp; done) | go_simp
  have cC1 : w1.cell? ⟨w.heap.size, 3, none⟩ = some (.slice ac s.cons.length kc) := by rw [hw1]; first | (simp; done) | go_simp
  clear hw1
  refine (limits_no s ao ko ah kh ac kc _ nh no nc hl).mono ?_; rintro e w2 ⟨rfl, f2⟩
  have b2 := b1.trans (f2.mono (by omega))
  have z2 := f2.size
  have cI2 := cell_keep f2 cI1
  have cO2 := cell_keep f2 cO1
  have cH2 := cell_keep f2 cH1
  have cC2 := cell_keep f2 cC1
  clear cI1 cO1 cH1 cC1
  go_wp2_with fail
  go_ret
  exact ⟨ret_bool HR.out.symm, b2⟩
 obtain ⟨h1, h2, h3, h4, h5⟩ := limB_facts hl
 go_enter Tryz.func43, Tryz.ntmps43
 go_wp2_with fail
 refine name_call fun w1 hw1 => ?_
 have b1 : Below w.heap.size w w1 := by rw [hw1]; (repeat (with_reducible first | exact bR _ _ | assumption | refine bD ?_ | refine bN ?_ _ | refine bA ?_ _ | refine bS ?_ _))
 have z1 : w.heap.size + 1 ≤ w1.heap.size := by rw [hw1]; simp
 have cI1 : w1.cell? ⟨w.heap.size, 0, none⟩ = some (.int .i64 s.ins) := by rw [hw1]; first | (simp; done) | go_simp
 have cO1 : w1.cell? ⟨w.heap.size, 1, none⟩ = some (.slice ao s.outs.length ko) := by rw [hw1]; first | (simp; done) | go_simp
 have cH1 : w1.cell? ⟨w.heap.size, 2, none⟩ = some (.slice ah s.hints.length kh) := by rw [hw1]; first | (simp; done) | go_simp
 have cC1 : w1.cell? ⟨w.heap.size, 3, none⟩ = some (.slice ac s.cons.length kc) := by rw [hw1]; first | (simp; done) | go_simp
 clear hw1
 refine (limits_yes s ao ko ah kh ac kc _ hl).mono ?_; rintro e w2 ⟨rfl, f2⟩
 have b2 := b1.trans (f2.mono (by omega))
 have z2 := f2.size
 have cI2 := cell_keep f2 cI1
 have cO2 := cell_keep f2 cO1
 have cH2 := cell_keep f2 cH1
 have cC2 := cell_keep f2 cC1
 clear cI1 cO1 cH1 cC1
 go_wp2_with fail
 go_loopw [15] (fun i wr => ∃ k : Nat, k ≤ s.hints.length ∧ i = .int .i64 k ∧ Below w.heap.size w wr ∧ w.heap.size < wr.heap.size ∧ wr.cell? ⟨w.heap.size, 0, none⟩ = some (.int .i64 s.ins) ∧ wr.cell? ⟨w.heap.size, 1, none⟩ = some (.slice ao s.outs.length ko) ∧ wr.cell? ⟨w.heap.size, 2, none⟩ = some (.slice ah s.hints.length kh) ∧ wr.cell? ⟨w.heap.size, 3, none⟩ = some (.slice ac s.cons.length kc) ∧ hintsB (1 + s.ins + k) (s.hints.drop k) = hintsB (1 + s.ins) s.hints) (fun i _ => s.hints.length - (intOf i).toNat)
 case atStart => exact ⟨0, Nat.zero_le _, rfl, b2, by omega, cI2, cO2, cH2, cC2, by simp⟩
 case round =>
  clear cI2 cO2 cH2 cC2
  obtain ⟨k, hk, rfl, be, zz, cI, cO, cH, cC, hq⟩ := hrel
  have HQ := Lib.hid hq
  clear hq
  by_cases hlt : k < s.hints.length
  ·obtain ⟨b, off, va, vb, rfl, l1, m1, c0, c1, c2, c3, f0, f3, ta, tb⟩ := (tH.keep be hw).at hlt
   obtain ⟨x, kx, rfl, lx, bx⟩ := ta.shape
   obtain ⟨y, ky, rfl, ly, by'⟩ := tb.shape
   have n0 : 0 ≤ 1 + s.ins + (k : Int) := by omega
   have n1 : 1 + s.ins + (k : Int) ≤ 3100 := by omega
   cases hh : hintW (1 + s.ins + k) s.hints[k]
   ·have E := Lib.hid (sysOk_hints (HQ.out.symm.trans (hintsB_stop hlt hh)))
    have HH := Lib.hid hh
    clear hh HQ
    have lcI : w.heap.size < wr.heap.size := World.block_lt_of_cell? _ _ cI
    go_wp2_with fail
    refine name_call fun wp1 hwp1 => ?_
    have bp1 : Below w.heap.size w wp1 := by rw [hwp1]; (repeat (with_reducible first | exact bR _ _ | assumption | refine bD ?_ | refine bN ?_ _ | refine bA ?_ _ | refine bS ?_ _))
    have zp1 : wr.heap.size + 1 ≤ wp1.heap.size := by rw [hwp1]; simp
    have ep1 : Below wr.heap.size wr wp1 := by rw [hwp1]; (repeat (with_reducible first | exact bR _ _ | assumption | refine bD ?_ | refine bN ?_ _ | refine bA ?_ _ | refine bS ?_ _))
    have cIp1 := cell_keep ep1 cI
    have cOp1 := cell_keep ep1 cO
    have cHp1 := cell_keep ep1 cH
    have cCp1 := cell_keep ep1 cC
    have tAp1 := ta.keep ep1 (by omega)
    have tBp1 := tb.keep ep1 (by omega)
    clear hwp1 lcI cI cO cH cC ta tb
    refine (hintWithin_any o l h _ _ s.hints[k] (1 + s.ins + k) _ tAp1 tBp1 f3 (by omega)).mono ?_; rw [HH.out]; rintro e wp2 ⟨rfl, fp2⟩
    have bp2 := bp1.trans (fp2.mono (by omega))
    have zp2 := fp2.size
    have cIp2 := cell_keep fp2 cIp1
    have cOp2 := cell_keep fp2 cOp1
    have cHp2 := cell_keep fp2 cHp1
    have cCp2 := cell_keep fp2 cCp1
    have tAp2 := tAp1.keep fp2 (by omega)
    have tBp2 := tBp1.keep fp2 (by omega)
    clear cIp1 cOp1 cHp1 cCp1 tAp1 tBp1
    go_wp2_with fail
    go_ret
    exact ⟨ret_bool E.out.symm, bp2⟩
   have E := Lib.hid ((hintsB_step hlt hh).symm.trans HQ.out)
   have HH := Lib.hid hh
   clear hh HQ
   have lcI : w.heap.size < wr.heap.size := World.block_lt_of_cell? _ _ cI
   go_wp2_with fail
   refine name_call fun wq1 hwq1 => ?_
   have bq1 : Below w.heap.size w wq1 := by rw [hwq1]; (repeat (with_reducible first | exact bR _ _ | assumption | refine bD ?_ | refine bN ?_ _ | refine bA ?_ _ | refine bS ?_ _))
   have zq1 : wr.heap.size + 1 ≤ wq1.heap.size := by rw [hwq1]; simp
   have eq1 : Below wr.heap.size wr wq1 := by rw [hwq1]; (repeat (with_reducible first | exact bR _ _ | assumption | refine bD ?_ | refine bN ?_ _ | refine bA ?_ _ | refine bS ?_ _))
   have cIq1 := cell_keep eq1 cI
   have cOq1 := cell_keep eq1 cO
   have cHq1 := cell_keep eq1 cH
   have cCq1 := cell_keep eq1 cC
   have tAq1 := ta.keep eq1 (by omega)
   have tBq1 := tb.keep eq1 (by omega)
   clear hwq1 lcI cI cO cH cC ta tb
   refine (hintWithin_any o l h _ _ s.hints[k] (1 + s.ins + k) _ tAq1 tBq1 f3 (by omega)).mono ?_; rw [HH.out]; rintro e wq2 ⟨rfl, fq2⟩
   have bq2 := bq1.trans (fq2.mono (by omega))
   have zq2 := fq2.size
   have cIq2 := cell_keep fq2 cIq1
   have cOq2 := cell_keep fq2 cOq1
   have cHq2 := cell_keep fq2 cHq1
   have cCq2 := cell_keep fq2 cCq1
   have tAq2 := tAq1.keep fq2 (by omega)
   have tBq2 := tBq1.keep fq2 (by omega)
   clear cIq1 cOq1 cHq1 cCq1 tAq1 tBq1
   go_wp2_with fail
   go_roundw
   case rel => exact ⟨k + 1, by omega, by go_num, bq2, by omega, cIq2, cOq2, cHq2, cCq2, E.out⟩
   case measure => simp [intOf]; omega
  ·have HB : Hid (hintsB (1 + s.ins) s.hints = true) := Lib.hid (by rw [← HQ.out, List.drop_eq_nil_of_le (by omega)]; rfl)
   clear HQ
   go_wp2_with fail
   go_loopw [32] (fun i wr => ∃ k : Nat, k ≤ s.outs.length ∧ i = .int .i64 k ∧ Below w.heap.size w wr ∧ w.heap.size < wr.heap.size ∧ wr.cell? ⟨w.heap.size, 0, none⟩ = some (.int .i64 s.ins) ∧ wr.cell? ⟨w.heap.size, 1, none⟩ = some (.slice ao s.outs.length ko) ∧ wr.cell? ⟨w.heap.size, 2, none⟩ = some (.slice ah s.hints.length kh) ∧ wr.cell? ⟨w.heap.size, 3, none⟩ = some (.slice ac s.cons.length kc) ∧ (s.outs.drop k).all (linW (varsN s)) = s.outs.all (linW (varsN s))) (fun i _ => s.outs.length - (intOf i).toNat)
   case atStart => exact ⟨0, Nat.zero_le _, rfl, be, by omega, cI, cO, cH, cC, rfl⟩
   case round =>
    clear cI cO cH cC
    obtain ⟨k, hk, rfl, be, zz, cI, cO, cH, cC, hq⟩ := hrel
    have HQ := Lib.hid hq
    clear hq
    by_cases hlt : k < s.outs.length
    ·obtain ⟨b, off, va, rfl, l1, m1, c0, ta⟩ := (tO.keep be hw).at hlt
     obtain ⟨x, kx, rfl, lx, bx⟩ := ta.shape
     cases hh : linW (varsN s) s.outs[k]
     ·have E := Lib.hid (sysOk_outs (HQ.out.symm.trans (all_stop hlt hh)))
      have HH : Hid (linW (1 + s.ins + s.hints.length) s.outs[k] = false) := Lib.hid hh
      clear hh HQ
      have wrz : wr.heap.size = wr.heap.size := rfl
      have lcI : w.heap.size < wr.heap.size := World.block_lt_of_cell? _ _ cI
      go_wp2_with fail
      refine name_wp fun wp21 hwp21 => ?_
      have bp21 : Below w.heap.size w wp21 := by rw [hwp21]; (repeat (with_reducible first | exact bR _ _ | assumption | refine bD ?_ | refine bN ?_ _ | refine bA ?_ _ | refine bS ?_ _))
      have zp21 : wr.heap.size + 1 ≤ wp21.heap.size := by rw [hwp21]; simp
      have ep21 : Below wr.heap.size wr wp21 := by rw [hwp21]; (repeat (with_reducible first | exact bR _ _ | assumption | refine bD ?_ | refine bN ?_ _ | refine bA ?_ _ | refine bS ?_ _))
      have cIp21 := cell_keep ep21 cI
      have cOp21 := cell_keep ep21 cO
      have cHp21 := cell_keep ep21 cH
      have cCp21 := cell_keep ep21 cC
      have cZp21 : wp21.cell? ⟨wr.heap.size, 0, none⟩ = some (.slice x s.outs[k].length kx) := by rw [hwp21]; first | (simp; done) | go_simp
      have tAp21 := ta.keep ep21 (by omega)
      clear hwp21 lcI cI cO cH cC ta
      have dp21 : Below wp21.heap.size wp21 wp21.drew := (Below.refl _ _).drew
      have zdp21 : wp21.heap.size ≤ wp21.drew.heap.size := Nat.le_refl _
      have zep21 : wp21.drew.heap.size ≤ wp21.heap.size := Nat.le_refl _
      have gI : wp21.drew.cell? ⟨w.heap.size, 0, none⟩ = some (.int .i64 s.ins) := cell_keep dp21 cIp21
      have gO : wp21.drew.cell? ⟨w.heap.size, 1, none⟩ = some (.slice (some ⟨b, off, none⟩) s.outs.length ko) := cell_keep dp21 cOp21
      have gH : wp21.drew.cell? ⟨w.heap.size, 2, none⟩ = some (.slice ah s.hints.length kh) := cell_keep dp21 cHp21
      have gC : wp21.drew.cell? ⟨w.heap.size, 3, none⟩ = some (.slice ac s.cons.length kc) := cell_keep dp21 cCp21
      have gZ : wp21.drew.cell? ⟨wr.heap.size, 0, none⟩ = some (.slice x s.outs[k].length kx) := cell_keep dp21 cZp21
      have uA := tAp21.keep dp21 (by omega)
      go_region_held3 (fun w' => w'.cell? ⟨w.heap.size, 0, none⟩ = some (.int .i64 s.ins) ∧ w'.cell? ⟨w.heap.size, 1, none⟩ = some (.slice (some ⟨b, off, none⟩) s.outs.length ko) ∧ w'.cell? ⟨w.heap.size, 2, none⟩ = some (.slice ah s.hints.length kh) ∧ w'.cell? ⟨w.heap.size, 3, none⟩ = some (.slice ac s.cons.length kc) ∧ w'.cell? ⟨wr.heap.size, 0, none⟩ = some (.slice x s.outs[k].length kx)) (first | exact ⟨gI, gO, gH, gC, gZ⟩ | exact ⟨cell_keep j1 gI, cell_keep j1 gO, cell_keep j1 gH, cell_keep j1 gC, cell_keep j1 gZ⟩ | exact ⟨cell_keep j2 (cell_keep j1 gI), cell_keep j2 (cell_keep j1 gO), cell_keep j2 (cell_keep j1 gH), cell_keep j2 (cell_keep j1 gC), cell_keep j2 (cell_keep j1 gZ)⟩)
       (first
        | (go_at_call 56; refine (vars_any s _ _ _ _ _ _ wp21.drew h1 h2 nh).mono ?_; rintro e v1 ⟨rfl, j1⟩)
        | (go_at_call 89; refine (withinI_any o l h _ s.outs[k] (1 + s.ins + s.hints.length) _ (uA.keep j1 (by omega)) (Nat.le_trans (show h ≤ wp21.drew.heap.size by omega) j1.size)).mono ?_; rw [HH.out]; rintro e v2 ⟨rfl, j2⟩))
      have bz : Below w.heap.size w v2 := ((bp21.trans (dp21.mono (by omega))).trans (j1.mono (by omega))).trans (j2.mono (by have := j1.size; omega))
      have s1 := j1.size
      have s2 := j2.size
      have kI := cell_keep j2 (cell_keep j1 gI)
      have kO := cell_keep j2 (cell_keep j1 gO)
      have kH := cell_keep j2 (cell_keep j1 gH)
      have kC := cell_keep j2 (cell_keep j1 gC)
      clear gI gO gH gC gZ uA
      go_wp2_with fail
      go_ret
      exact ⟨ret_bool E.out.symm, bz⟩
     have E := Lib.hid ((all_step hlt hh).symm.trans HQ.out)
     have HH : Hid (linW (1 + s.ins + s.hints.length) s.outs[k] = true) := Lib.hid hh
     clear hh HQ
     have wrz : wr.heap.size = wr.heap.size := rfl
     have lcI : w.heap.size < wr.heap.size := World.block_lt_of_cell? _ _ cI
     go_wp2_with fail
     refine name_wp fun wq21 hwq21 => ?_
     have bq21 : Below w.heap.size w wq21 := by rw [hwq21]; (repeat (with_reducible first | exact bR _ _ | assumption | refine bD ?_ | refine bN ?_ _ | refine bA ?_ _ | refine bS ?_ _))
     have zq21 : wr.heap.size + 1 ≤ wq21.heap.size := by rw [hwq21]; simp
     have eq21 : Below wr.heap.size wr wq21 := by rw [hwq21]; (repeat (with_reducible first | exact bR _ _ | assumption | refine bD ?_ | refine bN ?_ _ | refine bA ?_ _ | refine bS ?_ _))
     have cIq21 := cell_keep eq21 cI
     have cOq21 := cell_keep eq21 cO
     have cHq21 := cell_keep eq21 cH
     have cCq21 := cell_keep eq21 cC
     have cZq21 : wq21.cell? ⟨wr.heap.size, 0, none⟩ = some (.slice x s.outs[k].length kx) := by rw [hwq21]; first | (simp; done) | go_simp
     have tAq21 := ta.keep eq21 (by omega)
     clear hwq21 lcI cI cO cH cC ta
     have dq21 : Below wq21.heap.size wq21 wq21.drew := (Below.refl _ _).drew
     have zdq21 : wq21.heap.size ≤ wq21.drew.heap.size := Nat.le_refl _
     have zeq21 : wq21.drew.heap.size ≤ wq21.heap.size := Nat.le_refl _
     have gI : wq21.drew.cell? ⟨w.heap.size, 0, none⟩ = some (.int .i64 s.ins) := cell_keep dq21 cIq21
     have gO : wq21.drew.cell? ⟨w.heap.size, 1, none⟩ = some (.slice (some ⟨b, off, none⟩) s.outs.length ko) := cell_keep dq21 cOq21
     have gH : wq21.drew.cell? ⟨w.heap.size, 2, none⟩ = some (.slice ah s.hints.length kh) := cell_keep dq21 cHq21
     have gC : wq21.drew.cell? ⟨w.heap.size, 3, none⟩ = some (.slice ac s.cons.length kc) := cell_keep dq21 cCq21
     have gZ : wq21.drew.cell? ⟨wr.heap.size, 0, none⟩ = some (.slice x s.outs[k].length kx) := cell_keep dq21 cZq21
     have uA := tAq21.keep dq21 (by omega)
     go_region_held3 (fun w' => w'.cell? ⟨w.heap.size, 0, none⟩ = some (.int .i64 s.ins) ∧ w'.cell? ⟨w.heap.size, 1, none⟩ = some (.slice (some ⟨b, off, none⟩) s.outs.length ko) ∧ w'.cell? ⟨w.heap.size, 2, none⟩ = some (.slice ah s.hints.length kh) ∧ w'.cell? ⟨w.heap.size, 3, none⟩ = some (.slice ac s.cons.length kc) ∧ w'.cell? ⟨wr.heap.size, 0, none⟩ = some (.slice x s.outs[k].length kx)) (first | exact ⟨gI, gO, gH, gC, gZ⟩ | exact ⟨cell_keep j1 gI, cell_keep j1 gO, cell_keep j1 gH, cell_keep j1 gC, cell_keep j1 gZ⟩ | exact ⟨cell_keep j2 (cell_keep j1 gI), cell_keep j2 (cell_keep j1 gO), cell_keep j2 (cell_keep j1 gH), cell_keep j2 (cell_keep j1 gC), cell_keep j2 (cell_keep j1 gZ)⟩)
      (first
       | (go_at_call 56; refine (vars_any s _ _ _ _ _ _ wq21.drew h1 h2 nh).mono ?_; rintro e v1 ⟨rfl, j1⟩)
       | (go_at_call 89; refine (withinI_any o l h _ s.outs[k] (1 + s.ins + s.hints.length) _ (uA.keep j1 (by omega)) (Nat.le_trans (show h ≤ wq21.drew.heap.size by omega) j1.size)).mono ?_; rw [HH.out]; rintro e v2 ⟨rfl, j2⟩))
     have bz : Below w.heap.size w v2 := ((bq21.trans (dq21.mono (by omega))).trans (j1.mono (by omega))).trans (j2.mono (by have := j1.size; omega))
     have s1 := j1.size
     have s2 := j2.size
     have kI := cell_keep j2 (cell_keep j1 gI)
     have kO := cell_keep j2 (cell_keep j1 gO)
     have kH := cell_keep j2 (cell_keep j1 gH)
     have kC := cell_keep j2 (cell_keep j1 gC)
     clear gI gO gH gC gZ uA
     go_wp2_with fail
     go_roundw
     case rel => exact ⟨k + 1, by omega, by go_num, bz, by omega, kI, kO, kH, kC, E.out⟩
     case measure => simp [intOf]; omega
    ·have HO : Hid (outsB (varsN s) s.outs = true) := Lib.hid (HQ.out.symm.trans (by rw [List.drop_eq_nil_of_le (by omega)]; rfl))
     clear HQ
     go_wp2_with fail
     go_loopw [45] (fun i wr => ∃ k : Nat, k ≤ s.cons.length ∧ i = .int .i64 k ∧ Below w.heap.size w wr ∧ w.heap.size < wr.heap.size ∧ wr.cell? ⟨w.heap.size, 0, none⟩ = some (.int .i64 s.ins) ∧ wr.cell? ⟨w.heap.size, 1, none⟩ = some (.slice ao s.outs.length ko) ∧ wr.cell? ⟨w.heap.size, 2, none⟩ = some (.slice ah s.hints.length kh) ∧ wr.cell? ⟨w.heap.size, 3, none⟩ = some (.slice ac s.cons.length kc) ∧ (s.cons.drop k).all (conW (varsN s)) = s.cons.all (conW (varsN s))) (fun i _ => s.cons.length - (intOf i).toNat)
     case atStart => exact ⟨0, Nat.zero_le _, rfl, be, by omega, cI, cO, cH, cC, rfl⟩
     case round =>
      clear cI cO cH cC
      obtain ⟨k, hk, rfl, be, zz, cI, cO, cH, cC, hq⟩ := hrel
      have HQ := Lib.hid hq
      clear hq
      by_cases hlt : k < s.cons.length
      ·obtain ⟨b, off, va, vb, vc, rfl, l1, m1, c0, c1, c2, ta, tb, tc⟩ := (tC.keep be hw).at hlt
       obtain ⟨x, kx, rfl, lx, bx⟩ := ta.shape
       obtain ⟨y, ky, rfl, ly, by'⟩ := tb.shape
       obtain ⟨z, kz, rfl, lz, bz⟩ := tc.shape
       cases hh : conW (varsN s) s.cons[k]
       ·have E := Lib.hid (sysOk_cons (HQ.out.symm.trans (all_stop hlt hh)))
        have HH : Hid (conW (1 + s.ins + s.hints.length) s.cons[k] = false) := Lib.hid hh
        clear hh HQ
        have wrz : wr.heap.size = wr.heap.size := rfl
        have lcI : w.heap.size < wr.heap.size := World.block_lt_of_cell? _ _ cI
        go_wp2_with fail
        refine name_wp fun wp31 hwp31 => ?_
        have bp31 : Below w.heap.size w wp31 := by rw [hwp31]; (repeat (with_reducible first | exact bR _ _ | assumption | refine bD ?_ | refine bN ?_ _ | refine bA ?_ _ | refine bS ?_ _))
        have zp31 : wr.heap.size + 1 ≤ wp31.heap.size := by rw [hwp31]; simp
        have ep31 : Below wr.heap.size wr wp31 := by rw [hwp31]; (repeat (with_reducible first | exact bR _ _ | assumption | refine bD ?_ | refine bN ?_ _ | refine bA ?_ _ | refine bS ?_ _))
        have cIp31 := cell_keep ep31 cI
        have cOp31 := cell_keep ep31 cO
        have cHp31 := cell_keep ep31 cH
        have cCp31 := cell_keep ep31 cC
        have cZ0p31 : wp31.cell? ⟨wr.heap.size, 0, none⟩ = some (.slice x s.cons[k].a.length kx) := by rw [hwp31]; first | (simp; done) | go_simp
        have cZ1p31 : wp31.cell? ⟨wr.heap.size, 1, none⟩ = some (.slice y s.cons[k].b.length ky) := by rw [hwp31]; first | (simp; done) | go_simp
        have cZ2p31 : wp31.cell? ⟨wr.heap.size, 2, none⟩ = some (.slice z s.cons[k].c.length kz) := by rw [hwp31]; first | (simp; done) | go_simp
        have tAp31 := ta.keep ep31 (by omega)
        have tBp31 := tb.keep ep31 (by omega)
        have tDp31 := tc.keep ep31 (by omega)
        clear hwp31 lcI cI cO cH cC ta tb tc
        have dp31 : Below wp31.heap.size wp31 wp31.drew := (Below.refl _ _).drew
        have zdp31 : wp31.heap.size ≤ wp31.drew.heap.size := Nat.le_refl _
        have zep31 : wp31.drew.heap.size ≤ wp31.heap.size := Nat.le_refl _
        have gI : wp31.drew.cell? ⟨w.heap.size, 0, none⟩ = some (.int .i64 s.ins) := cell_keep dp31 cIp31
        have gO : wp31.drew.cell? ⟨w.heap.size, 1, none⟩ = some (.slice ao s.outs.length ko) := cell_keep dp31 cOp31
        have gH : wp31.drew.cell? ⟨w.heap.size, 2, none⟩ = some (.slice ah s.hints.length kh) := cell_keep dp31 cHp31
        have gC : wp31.drew.cell? ⟨w.heap.size, 3, none⟩ = some (.slice (some ⟨b, off, none⟩) s.cons.length kc) := cell_keep dp31 cCp31
        have gZ0 : wp31.drew.cell? ⟨wr.heap.size, 0, none⟩ = some (.slice x s.cons[k].a.length kx) := cell_keep dp31 cZ0p31
        have gZ1 : wp31.drew.cell? ⟨wr.heap.size, 1, none⟩ = some (.slice y s.cons[k].b.length ky) := cell_keep dp31 cZ1p31
        have gZ2 : wp31.drew.cell? ⟨wr.heap.size, 2, none⟩ = some (.slice z s.cons[k].c.length kz) := cell_keep dp31 cZ2p31
        have uA := tAp31.keep dp31 (by omega)
        have uB := tBp31.keep dp31 (by omega)
        have uD := tDp31.keep dp31 (by omega)
        go_region_held3 (fun w' => w'.cell? ⟨w.heap.size, 0, none⟩ = some (.int .i64 s.ins) ∧ w'.cell? ⟨w.heap.size, 1, none⟩ = some (.slice ao s.outs.length ko) ∧ w'.cell? ⟨w.heap.size, 2, none⟩ = some (.slice ah s.hints.length kh) ∧ w'.cell? ⟨w.heap.size, 3, none⟩ = some (.slice (some ⟨b, off, none⟩) s.cons.length kc) ∧ w'.cell? ⟨wr.heap.size, 0, none⟩ = some (.slice x s.cons[k].a.length kx) ∧ w'.cell? ⟨wr.heap.size, 1, none⟩ = some (.slice y s.cons[k].b.length ky) ∧ w'.cell? ⟨wr.heap.size, 2, none⟩ = some (.slice z s.cons[k].c.length kz)) (first | exact ⟨gI, gO, gH, gC, gZ0, gZ1, gZ2⟩ | exact ⟨cell_keep j1 gI, cell_keep j1 gO, cell_keep j1 gH, cell_keep j1 gC, cell_keep j1 gZ0, cell_keep j1 gZ1, cell_keep j1 gZ2⟩ | exact ⟨cell_keep j2 (cell_keep j1 gI), cell_keep j2 (cell_keep j1 gO), cell_keep j2 (cell_keep j1 gH), cell_keep j2 (cell_keep j1 gC), cell_keep j2 (cell_keep j1 gZ0), cell_keep j2 (cell_keep j1 gZ1), cell_keep j2 (cell_keep j1 gZ2)⟩)
         (first
          | (go_at_call 56; refine (vars_any s _ _ _ _ _ _ wp31.drew h1 h2 nh).mono ?_; rintro e v1 ⟨rfl, j1⟩)
          | (go_at_call 67; refine (conWithin_any o l h _ _ _ s.cons[k] (1 + s.ins + s.hints.length) _ (uA.keep j1 (by omega)) (uB.keep j1 (by omega)) (uD.keep j1 (by omega)) (Nat.le_trans (show h ≤ wp31.drew.heap.size by omega) j1.size)).mono ?_; rw [HH.out]; rintro e v2 ⟨rfl, j2⟩))
        have bz : Below w.heap.size w v2 := ((bp31.trans (dp31.mono (by omega))).trans (j1.mono (by omega))).trans (j2.mono (by have := j1.size; omega))
        have s1 := j1.size
        have s2 := j2.size
        have kI := cell_keep j2 (cell_keep j1 gI)
        have kO := cell_keep j2 (cell_keep j1 gO)
        have kH := cell_keep j2 (cell_keep j1 gH)
        have kC := cell_keep j2 (cell_keep j1 gC)
        clear gI gO gH gC gZ0 gZ1 gZ2 uA uB uD
        go_wp2_with fail
        go_ret
        exact ⟨ret_bool E.out.symm, bz⟩
       have E := Lib.hid ((all_step hlt hh).symm.trans HQ.out)
       have HH : Hid (conW (1 + s.ins + s.hints.length) s.cons[k] = true) := Lib.hid hh
       clear hh HQ
       have wrz : wr.heap.size = wr.heap.size := rfl
       have lcI : w.heap.size < wr.heap.size := World.block_lt_of_cell? _ _ cI
       go_wp2_with fail
       refine name_wp fun wq31 hwq31 => ?_
       have bq31 : Below w.heap.size w wq31 := by rw [hwq31]; (repeat (with_reducible first | exact bR _ _ | assumption | refine bD ?_ | refine bN ?_ _ | refine bA ?_ _ | refine bS ?_ _))
       have zq31 : wr.heap.size + 1 ≤ wq31.heap.size := by rw [hwq31]; simp
       have eq31 : Below wr.heap.size wr wq31 := by rw [hwq31]; (repeat (with_reducible first | exact bR _ _ | assumption | refine bD ?_ | refine bN ?_ _ | refine bA ?_ _ | refine bS ?_ _))
       have cIq31 := cell_keep eq31 cI
       have cOq31 := cell_keep eq31 cO
       have cHq31 := cell_keep eq31 cH
       have cCq31 := cell_keep eq31 cC
       have cZ0q31 : wq31.cell? ⟨wr.heap.size, 0, none⟩ = some (.slice x s.cons[k].a.length kx) := by rw [hwq31]; first | (simp; done) | go_simp
       have cZ1q31 : wq31.cell? ⟨wr.heap.size, 1, none⟩ = some (.slice y s.cons[k].b.length ky) := by rw [hwq31]; first | (simp; done) | go_simp
       have cZ2q31 : wq31.cell? ⟨wr.heap.size, 2, none⟩ = some (.slice z s.cons[k].c.length kz) := by rw [hwq31]; first | (simp; done) | go_simp
       have tAq31 := ta.keep eq31 (by omega)
       have tBq31 := tb.keep eq31 (by omega)
       have tDq31 := tc.keep eq31 (by omega)
       clear hwq31 lcI cI cO cH cC ta tb tc
       have dq31 : Below wq31.heap.size wq31 wq31.drew := (Below.refl _ _).drew
       have zdq31 : wq31.heap.size ≤ wq31.drew.heap.size := Nat.le_refl _
       have zeq31 : wq31.drew.heap.size ≤ wq31.heap.size := Nat.le_refl _
       have gI : wq31.drew.cell? ⟨w.heap.size, 0, none⟩ = some (.int .i64 s.ins) := cell_keep dq31 cIq31
       have gO : wq31.drew.cell? ⟨w.heap.size, 1, none⟩ = some (.slice ao s.outs.length ko) := cell_keep dq31 cOq31
       have gH : wq31.drew.cell? ⟨w.heap.size, 2, none⟩ = some (.slice ah s.hints.length kh) := cell_keep dq31 cHq31
       have gC : wq31.drew.cell? ⟨w.heap.size, 3, none⟩ = some (.slice (some ⟨b, off, none⟩) s.cons.length kc) := cell_keep dq31 cCq31
       have gZ0 : wq31.drew.cell? ⟨wr.heap.size, 0, none⟩ = some (.slice x s.cons[k].a.length kx) := cell_keep dq31 cZ0q31
       have gZ1 : wq31.drew.cell? ⟨wr.heap.size, 1, none⟩ = some (.slice y s.cons[k].b.length ky) := cell_keep dq31 cZ1q31
       have gZ2 : wq31.drew.cell? ⟨wr.heap.size, 2, none⟩ = some (.slice z s.cons[k].c.length kz) := cell_keep dq31 cZ2q31
       have uA := tAq31.keep dq31 (by omega)
       have uB := tBq31.keep dq31 (by omega)
       have uD := tDq31.keep dq31 (by omega)
       go_region_held3 (fun w' => w'.cell? ⟨w.heap.size, 0, none⟩ = some (.int .i64 s.ins) ∧ w'.cell? ⟨w.heap.size, 1, none⟩ = some (.slice ao s.outs.length ko) ∧ w'.cell? ⟨w.heap.size, 2, none⟩ = some (.slice ah s.hints.length kh) ∧ w'.cell? ⟨w.heap.size, 3, none⟩ = some (.slice (some ⟨b, off, none⟩) s.cons.length kc) ∧ w'.cell? ⟨wr.heap.size, 0, none⟩ = some (.slice x s.cons[k].a.length kx) ∧ w'.cell? ⟨wr.heap.size, 1, none⟩ = some (.slice y s.cons[k].b.length ky) ∧ w'.cell? ⟨wr.heap.size, 2, none⟩ = some (.slice z s.cons[k].c.length kz)) (first | exact ⟨gI, gO, gH, gC, gZ0, gZ1, gZ2⟩ | exact ⟨cell_keep j1 gI, cell_keep j1 gO, cell_keep j1 gH, cell_keep j1 gC, cell_keep j1 gZ0, cell_keep j1 gZ1, cell_keep j1 gZ2⟩ | exact ⟨cell_keep j2 (cell_keep j1 gI), cell_keep j2 (cell_keep j1 gO), cell_keep j2 (cell_keep j1 gH), cell_keep j2 (cell_keep j1 gC), cell_keep j2 (cell_keep j1 gZ0), cell_keep j2 (cell_keep j1 gZ1), cell_keep j2 (cell_keep j1 gZ2)⟩)
        (first
         | (go_at_call 56; refine (vars_any s _ _ _ _ _ _ wq31.drew h1 h2 nh).mono ?_; rintro e v1 ⟨rfl, j1⟩)
         | (go_at_call 67; refine (conWithin_any o l h _ _ _ s.cons[k] (1 + s.ins + s.hints.length) _ (uA.keep j1 (by omega)) (uB.keep j1 (by omega)) (uD.keep j1 (by omega)) (Nat.le_trans (show h ≤ wq31.drew.heap.size by omega) j1.size)).mono ?_; rw [HH.out]; rintro e v2 ⟨rfl, j2⟩))
       have bz : Below w.heap.size w v2 := ((bq31.trans (dq31.mono (by omega))).trans (j1.mono (by omega))).trans (j2.mono (by have := j1.size; omega))
       have s1 := j1.size
       have s2 := j2.size
       have kI := cell_keep j2 (cell_keep j1 gI)
       have kO := cell_keep j2 (cell_keep j1 gO)
       have kH := cell_keep j2 (cell_keep j1 gH)
       have kC := cell_keep j2 (cell_keep j1 gC)
       clear gI gO gH gC gZ0 gZ1 gZ2 uA uB uD
       go_wp2_with fail
       go_roundw
       case rel => exact ⟨k + 1, by omega, by go_num, bz, by omega, kI, kO, kH, kC, E.out⟩
       case measure => simp [intOf]; omega
      ·have HC : Hid (consB (varsN s) s.cons = true) := Lib.hid (HQ.out.symm.trans (by rw [List.drop_eq_nil_of_le (by omega)]; rfl))
       clear HQ
       have HR := Lib.hid (sysOk_yes hl HB.out HO.out HC.out)
       go_wp2_with fail
       go_ret
       exact ⟨ret_bool HR.out.symm, be⟩
theorem sysOk_impl_yes (o l h vi vo vh vc) (s : SysC) (w : World) (t : SysR o l h w vi vo vh vc s) (hw : h ≤ w.heap.size) (nh : s.hints.length ≤ 1048576) (no : s.outs.length ≤ 1048576) (nc : s.cons.length ≤ 1048576) (hk : sysOk s = true) :
  Calls Tryz.prog 43 #[.agg #[vi, vo, vh, vc]] w fun e w' => e = .returned (.bool true) ∧ Below w.heap.size w w' := by
 have := sysOk_impl o l h vi vo vh vc s w t hw nh no nc
 rw [hk] at this; exact this
theorem sysOk_impl_no (o l h vi vo vh vc) (s : SysC) (w : World) (t : SysR o l h w vi vo vh vc s) (hw : h ≤ w.heap.size) (nh : s.hints.length ≤ 1048576) (no : s.outs.length ≤ 1048576) (nc : s.cons.length ≤ 1048576) (hk : sysOk s = false) :
  Calls Tryz.prog 43 #[.agg #[vi, vo, vh, vc]] w fun e w' => e = .returned (.bool false) ∧ Below w.heap.size w w' := by
 have := sysOk_impl o l h vi vo vh vc s w t hw nh no nc
 rw [hk] at this; exact this
end Go.Proofs.YthipgpbapdambaaGreat.L

/- Gates as functions on lists: what the model adds to a system, what the program's builder collects, and that they agree. -/
namespace Go.Proofs.YthipgpbapdambaaGreat.L
open Go.RowKit Go.Proofs.YthipgpbapdambaaGreat.S
set_option linter.unusedVariables false
set_option linter.unusedSimpArgs false

/-- The model's way: onto the system itself. -/
def sVar (s : SysC) : List T := [(varsN s, 1)]
def sHint (s : SysC) (h : HintC) : SysC := ⟨s.ins, s.outs, s.hints ++ [h], s.cons⟩
def sCon (s : SysC) (c : ConC) : SysC := ⟨s.ins, s.outs, s.hints, s.cons ++ [c]⟩
def mulS (s : SysC) (a b : List T) : SysC := sCon (sHint s ⟨0, a, b, 0⟩) ⟨a, b, sVar s⟩
def boolS (s : SysC) (a : List T) : SysC := sCon s ⟨a, mrg 2147483646 a (constOf 1), []⟩
def eqS (s : SysC) (a b : List T) : SysC := sCon s ⟨mrg 2147483646 a b, constOf 1, []⟩
def packF (f : Int → List T → List T → List T) : Nat → List T → List (List T) → List T
 | _, acc, [] => acc
 | i, acc, b :: r => packF f (i + 1) (f ((2 : Int) ^ i) acc b) r
def packS (l : List (List T)) : List T := packF mrg 0 [] l
def bitsK (s : SysC) (a : List T) : Nat → SysC × List (List T)
 | 0 => (s, [])
 | k + 1 => (boolS (sHint (bitsK s a k).1 ⟨1, a, [], k⟩) (sVar (bitsK s a k).1), (bitsK s a k).2 ++ [sVar (bitsK s a k).1])
def bitsS (s : SysC) (a : List T) (n : Nat) : SysC := eqS (bitsK s a n).1 (packS (bitsK s a n).2) a
def zeroZ (s : SysC) (a : List T) : List T := mrg 2147483646 (constOf 1) (sVar (sHint s ⟨2, a, [], 0⟩))
def zeroS (s : SysC) (a : List T) : SysC := sCon (mulS (sHint s ⟨2, a, [], 0⟩) a (sVar s)) ⟨a, zeroZ s a, []⟩
def lessD (a b : List T) (n : Nat) : List T := mrg 1 (mrg 2147483646 a b) (constOf ((2 : Int) ^ n))
def lessS (s : SysC) (a b : List T) (n : Nat) : SysC := bitsS s (lessD a b n) (n + 1)
def lessZ (s : SysC) (a b : List T) (n : Nat) : List T := mrg 2147483646 (constOf 1) ((bitsK s (lessD a b n) (n + 1)).2.getD n [])

/-- The program's way: a list of hints, one of constraints, and how many there would be. -/
structure Bd where
 hs : List HintC
 cs : List ConC
 n : Nat
def bVar (s : SysC) (b : Bd) : List T := varOf (varsN s + b.hs.length)
def bHint (s : SysC) (b : Bd) (h : HintC) : Bd := ⟨if varsN s + b.hs.length < 3000 then b.hs ++ [h] else b.hs, b.cs, b.n + 1⟩
def bCon (s : SysC) (b : Bd) (c : ConC) : Bd := ⟨b.hs, if s.cons.length + b.cs.length < 4000 then b.cs ++ [c] else b.cs, b.n + 1⟩
def mulB (s : SysC) (b : Bd) (x y : List T) : Bd := bCon s (bHint s b ⟨0, x, y, 0⟩) ⟨x, y, bVar s b⟩
def boolB (s : SysC) (b : Bd) (x : List T) : Bd := bCon s b ⟨x, lcomb 2147483646 x (constOf 1), []⟩
def eqB (s : SysC) (b : Bd) (x y : List T) : Bd := bCon s b ⟨lcomb 2147483646 x y, constOf 1, []⟩
def bitsBK (s : SysC) (b : Bd) (x : List T) : Nat → Bd × List (List T)
 | 0 => (b, [])
 | k + 1 => (boolB s (bHint s (bitsBK s b x k).1 ⟨1, x, [], k⟩) (bVar s (bitsBK s b x k).1), (bitsBK s b x k).2 ++ [bVar s (bitsBK s b x k).1])
/-- What Pack answers. -/
def packOk (l : List (List T)) : Bool := decide (l.length ≤ 30) && l.all linOk
def packL (l : List (List T)) : List T := if packOk l = true then packS l else []
def bitsB (s : SysC) (b : Bd) (x : List T) (n : Nat) : Bd := eqB s (bitsBK s b x n).1 (packL (bitsBK s b x n).2) x
def zeroBZ (s : SysC) (b : Bd) (x : List T) : List T := lcomb 2147483646 (constOf 1) (bVar s (bHint s b ⟨2, x, [], 0⟩))
def zeroB (s : SysC) (b : Bd) (x : List T) : Bd := bCon s (mulB s (bHint s b ⟨2, x, [], 0⟩) x (bVar s b)) ⟨x, zeroBZ s b x, []⟩
def lessBD (x y : List T) (n : Nat) : List T := lcomb 1 (lcomb 2147483646 x y) (constOf ((2 : Int) ^ n))
def lessB (s : SysC) (b : Bd) (x y : List T) (n : Nat) : Bd := bitsB s b (lessBD x y n) (n + 1)
def lessBZ (s : SysC) (b : Bd) (x y : List T) (n : Nat) : List T := lcomb 2147483646 (constOf 1) ((bitsBK s b (lessBD x y n) (n + 1)).2.getD n [])
/-- The whole: the system, and whether there was room. -/
def bOk (b : Bd) : Bool := decide (b.n = b.hs.length + b.cs.length)
def bSys (s : SysC) (b : Bd) : SysC := if bOk b = true then ⟨s.ins, s.outs, s.hints ++ b.hs, s.cons ++ b.cs⟩ else s

/-- There is room for t. -/
def Room (t : SysC) : Prop := varsN t ≤ 3000 ∧ t.cons.length ≤ 4000
/-- The builder b over s stands where the model stands with t. -/
def Sim (s : SysC) (b : Bd) (t : SysC) : Prop :=
 ∃ (H : List HintC) (C : List ConC), t = ⟨s.ins, s.outs, s.hints ++ H, s.cons ++ C⟩ ∧ b.n = H.length + C.length ∧ (b.hs.length : Int) = min (H.length : Int) (3000 - varsN s) ∧ b.cs.length = min C.length (4000 - s.cons.length) ∧ (Room t → b.hs = H ∧ b.cs = C ∧ sysOk t = true)

theorem linW_mono {n m : Int} {ts : List T} (h : linW n ts = true) (hnm : n ≤ m) : linW m ts = true := by
 unfold linW at h ⊢
 simp only [Bool.and_eq_true, decide_eq_true_eq] at h ⊢
 exact ⟨h.1, fun t ht => by have := h.2 t ht; omega⟩
theorem conW_mono {n m : Int} {c : ConC} (h : conW n c = true) (hnm : n ≤ m) : conW m c = true := by
 unfold conW at h ⊢
 simp only [Bool.and_eq_true] at h ⊢
 exact ⟨linW_mono h.1 hnm, linW_mono h.2.1 hnm, linW_mono h.2.2 hnm⟩
theorem hintsB_snoc : ∀ (hs : List HintC) (n : Int) (x : HintC), hintsB n (hs ++ [x]) = (hintsB n hs && hintW (n + hs.length) x)
 | [], n, x => by simp [hintsB]
 | y :: r, n, x => by
  rw [List.cons_append, hintsB, hintsB, hintsB_snoc r (n + 1) x, Bool.and_assoc, List.length_cons, show n + 1 + (r.length : Int) = n + ((r.length + 1 : Nat) : Int) from by omega]
theorem varsN_hint (t : SysC) (h : HintC) : varsN (sHint t h) = varsN t + 1 := by unfold varsN sHint; simp; omega
theorem varsN_con (t : SysC) (c : ConC) : varsN (sCon t c) = varsN t := rfl
theorem Room.hint {t : SysC} {h : HintC} (r : Room (sHint t h)) : Room t := ⟨by have := r.1; rw [varsN_hint] at this; omega, r.2⟩
theorem Room.con {t : SysC} {c : ConC} (r : Room (sCon t c)) : Room t := ⟨r.1, by have := r.2; unfold sCon at this; simp at this; omega⟩
theorem sysOk_hint {t : SysC} {h : HintC} (ht : sysOk t = true) (hr : varsN t + 1 ≤ 3000) (hh : hintW (varsN t) h = true) : sysOk (sHint t h) = true := by
 have hl := limB_facts (sysOk_limB ht)
 unfold sysOk at ht
 simp only [Bool.and_eq_true] at ht
 obtain ⟨h1, h2, h3, h4⟩ := ht
 refine sysOk_yes ?_ ?_ ?_ ?_
 ·unfold limB
  rw [varsN_hint]
  exact decide_eq_true ⟨hl.1, hl.2.1, hl.2.2.1, hr, hl.2.2.2.2⟩
 ·show hintsB (1 + t.ins) (t.hints ++ [h]) = true
  rw [hintsB_snoc, h2, Bool.true_and]
  exact hh
 ·rw [varsN_hint]
  unfold outsB at h3 ⊢
  rw [List.all_eq_true] at h3 ⊢
  exact fun x hx => linW_mono (h3 x hx) (by omega)
 ·rw [varsN_hint]
  unfold consB at h4 ⊢
  rw [List.all_eq_true] at h4 ⊢
  exact fun x hx => conW_mono (h4 x hx) (by omega)
theorem sysOk_con {t : SysC} {c : ConC} (ht : sysOk t = true) (hr : t.cons.length + 1 ≤ 4000) (hc : conW (varsN t) c = true) : sysOk (sCon t c) = true := by
 have hl := limB_facts (sysOk_limB ht)
 unfold sysOk at ht
 simp only [Bool.and_eq_true] at ht
 obtain ⟨h1, h2, h3, h4⟩ := ht
 refine sysOk_yes ?_ h2 h3 ?_
 ·unfold limB
  rw [varsN_con]
  refine decide_eq_true ⟨hl.1, hl.2.1, hl.2.2.1, hl.2.2.2.1, ?_⟩
  show (t.cons ++ [c]).length ≤ 4000
  simp; omega
 ·rw [varsN_con]
  unfold consB at h4 ⊢
  show (t.cons ++ [c]).all _ = true
  rw [List.all_append, h4]
  simp [hc]

theorem Sim.start {s : SysC} (hs : sysOk s = true) : Sim s ⟨[], [], 0⟩ s := by
 have hl := limB_facts (sysOk_limB hs)
 refine ⟨[], [], by simp, rfl, ?_, by simp, fun _ => ⟨rfl, rfl, hs⟩⟩
 unfold varsN
 simp only [List.length_nil]
 omega
theorem Sim.vars {s : SysC} {b : Bd} {t : SysC} {x : HintC} (h : Sim s b t) (r : Room (sHint t x)) : bVar s b = sVar t := by
 obtain ⟨H, C, rfl, h1, h2, h3, h4⟩ := h
 obtain ⟨e1, e2, e3⟩ := h4 r.hint
 have hl := limB_facts (sysOk_limB e3)
 have q := r.1
 rw [varsN_hint] at q
 have e : varsN s + (b.hs.length : Int) = varsN ⟨s.ins, s.outs, s.hints ++ H, s.cons ++ C⟩ := by rw [e1]; unfold varsN; simp; omega
 unfold bVar sVar
 rw [e]
 unfold varOf
 rw [if_pos ⟨by unfold varsN; simp only; have := hl.1; simp only at this; omega, by omega⟩]
theorem Sim.hint {s : SysC} {b : Bd} {t : SysC} {h h' : HintC} (hs : Sim s b t) (hh : Room t → h' = h ∧ hintW (varsN t) h = true) : Sim s (bHint s b h') (sHint t h) := by
 obtain ⟨H, C, rfl, h1, h2, h3, h4⟩ := hs
 refine ⟨H ++ [h], C, ?_, ?_, ?_, h3, fun r => ?_⟩
 ·unfold sHint; simp
 ·unfold bHint; simp only [List.length_append, List.length_cons, List.length_nil]; omega
 ·unfold bHint
  simp only
  split
  ·simp only [List.length_append, List.length_cons, List.length_nil]; omega
  ·simp only [List.length_append, List.length_cons, List.length_nil]; omega
 ·obtain ⟨e1, e2, e3⟩ := h4 r.hint
  obtain ⟨rfl, hw⟩ := hh r.hint
  have q := r.1
  rw [varsN_hint] at q
  have e : varsN s + (b.hs.length : Int) = varsN ⟨s.ins, s.outs, s.hints ++ H, s.cons ++ C⟩ := by rw [e1]; unfold varsN; simp; omega
  refine ⟨?_, e2, sysOk_hint e3 q hw⟩
  unfold bHint
  simp only
  rw [if_pos (by omega), e1]
theorem Sim.con {s : SysC} {b : Bd} {t : SysC} {c c' : ConC} (hs : Sim s b t) (hc : Room t → c' = c ∧ conW (varsN t) c = true) : Sim s (bCon s b c') (sCon t c) := by
 obtain ⟨H, C, rfl, h1, h2, h3, h4⟩ := hs
 refine ⟨H, C ++ [c], ?_, ?_, h2, ?_, fun r => ?_⟩
 ·unfold sCon; simp
 ·unfold bCon; simp only [List.length_append, List.length_cons, List.length_nil]; omega
 ·unfold bCon
  simp only
  split
  ·simp only [List.length_append, List.length_cons, List.length_nil]; omega
  ·simp only [List.length_append, List.length_cons, List.length_nil]; omega
 ·obtain ⟨e1, e2, e3⟩ := h4 r.con
  obtain ⟨rfl, hw⟩ := hc r.con
  have q := r.2
  unfold sCon at q
  simp only [List.length_append, List.length_cons, List.length_nil] at q
  refine ⟨e1, ?_, sysOk_con e3 (by simp only [List.length_append]; omega) hw⟩
  unfold bCon
  simp only
  rw [e2, if_pos (by omega)]
/-- At the end both say the same. -/
theorem Sim.done {s : SysC} {b : Bd} {t : SysC} (hs : Sim s b t) (h0 : sysOk s = true) : bOk b = sysOk t ∧ (sysOk t = true → bSys s b = t ∧ Room t) ∧ (sysOk t = false → bSys s b = s) := by
 have hl := limB_facts (sysOk_limB h0)
 obtain ⟨H, C, rfl, h1, h2, h3, h4⟩ := hs
 have key : bOk b = sysOk ⟨s.ins, s.outs, s.hints ++ H, s.cons ++ C⟩ := by
  cases hk : sysOk ⟨s.ins, s.outs, s.hints ++ H, s.cons ++ C⟩
  ·unfold bOk
   rw [decide_eq_false_iff_not]
   intro e
   have r : Room ⟨s.ins, s.outs, s.hints ++ H, s.cons ++ C⟩ := by
    unfold varsN at h2
    refine ⟨?_, ?_⟩
    ·unfold varsN; simp only [List.length_append]; omega
    ·simp only [List.length_append]; omega
   rw [(h4 r).2.2] at hk
   cases hk
  ·have q := limB_facts (sysOk_limB hk)
   obtain ⟨e1, e2, -⟩ := h4 ⟨q.2.2.2.1, q.2.2.2.2⟩
   unfold bOk
   rw [e1, e2, h1]
   simp
 refine ⟨key, fun hk => ?_, fun hk => ?_⟩
 ·have q := limB_facts (sysOk_limB hk)
  obtain ⟨e1, e2, -⟩ := h4 ⟨q.2.2.2.1, q.2.2.2.2⟩
  unfold bSys
  rw [key, hk, if_pos rfl, e1, e2]
  exact ⟨rfl, q.2.2.2.1, q.2.2.2.2⟩
 ·unfold bSys
  rw [key, hk, if_neg (by simp)]
end Go.Proofs.YthipgpbapdambaaGreat.L
