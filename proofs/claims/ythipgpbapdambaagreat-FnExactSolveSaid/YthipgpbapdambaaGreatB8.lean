/- B8: SpecW VFor SpecOk -/
import Derived.Test.YthipgpbapdambaaGreatB7
set_option linter.unusedVariables false
set_option linter.unusedSimpArgs false
/- Valid systems: the model's SysOk. -/
namespace Go.Proofs.YthipgpbapdambaaGreat.L
open Go.RowKit Go.Proofs.YthipgpbapdambaaGreat.S
set_option linter.unusedVariables false
set_option linter.unusedSimpArgs false

theorem l2w_any (o l h va ts) (n : Int) (w : World) (t : Terms o l h w va ts) (hw : h ≤ w.heap.size) (n0 : 0 ≤ n) (n1 : n ≤ 1000000) (hk : linOk ts = true) (b : Bool) (hb : linW n ts = b) :
  Calls Tryz.prog 60 #[.agg #[va], .int .i64 n] w fun e w' => e = .returned (.bool b) ∧ Below w.heap.size w w' := by
 obtain ⟨m, rfl⟩ : ∃ m : Nat, n = m := ⟨n.toNat, by omega⟩
 have := within_any o l h va ts m w t hw hk (by omega)
 rw [linW_within, hk, Bool.true_and] at hb
 rw [hb] at this; exact this
theorem lok_spec (o l h v ts) (w : World) (h1 : Terms o l h w v ts) (hw : h ≤ w.heap.size) (b : Bool) (hk : linOk ts = b) :
  Calls Tryz.prog 59 #[.agg #[v]] w fun e w' => e = .returned (.bool b) ∧ Below w.heap.size w w' := by
 have := linOk_spec o l h v ts w h1 hw
 rw [hk] at this; exact this

set_option maxRecDepth 100000 in
theorem l3vars_any (s : SysC) (ao ko ah kh ac kc) (w : World) (i0 : 0 ≤ s.ins) (i1 : s.ins ≤ 100) (hn : s.hints.length ≤ 1048576) :
  Calls Tryz.prog 57 #[.agg #[.int .i64 s.ins, .slice ao s.outs.length ko, .slice ah s.hints.length kh, .slice ac s.cons.length kc]] w fun e w' => e = .returned (.int .i64 (1 + s.ins + s.hints.length)) ∧ Below w.heap.size w w' := by
 go_enter Tryz.func57, Tryz.ntmps57
 go_wp2_with fail
 go_ret
 exact ⟨rfl, by (repeat (with_reducible first | exact bR _ _ | assumption | refine bD ?_ | refine bN ?_ _ | refine bA ?_ _ | refine bS ?_ _))⟩

set_option maxRecDepth 100000 in
set_option maxHeartbeats 3200000 in
theorem l3con_any (o l h va vb vc) (x : ConC) (n : Int) (w : World) (ta : Terms o l h w va x.a) (tb : Terms o l h w vb x.b) (tc : Terms o l h w vc x.c) (hw : h ≤ w.heap.size) (n0 : 0 ≤ n) (n1 : n ≤ 1000000) :
  Calls Tryz.prog 61 #[.agg #[va, vb, vc], .int .i64 n] w fun e w' => e = .returned (.bool (conW n x)) ∧ Below w.heap.size w w' := by
 obtain ⟨aa, ka, rfl, laa, baa⟩ := ta.shape
 obtain ⟨ab, kb, rfl, lab, bab⟩ := tb.shape
 obtain ⟨ac, kc, rfl, lac, bac⟩ := tc.shape
 cases ha : linOk x.a
 ·have HR : Hid (conW n x = false) := Lib.hid (by simp [conW, linW_no ha])
  go_enter Tryz.func61, Tryz.ntmps61
  go_wp2_with fail
  refine name_call fun w1 hw1 => ?_
  have b1 : Below w.heap.size w w1 := by rw [hw1]; (repeat (with_reducible first | exact bR _ _ | assumption | refine bD ?_ | refine bN ?_ _ | refine bA ?_ _ | refine bS ?_ _))
  have z1 : w.heap.size + 1 ≤ w1.heap.size := by rw [hw1]; simp
  have e1 : Below w.heap.size w w1 := by rw [hw1]; (repeat (with_reducible first | exact bR _ _ | assumption | refine bD ?_ | refine bN ?_ _ | refine bA ?_ _ | refine bS ?_ _))
  have ca1 : w1.cell? ⟨w.heap.size, 0, none⟩ = some (.slice aa x.a.length ka) := by rw [hw1]; first | (simp; done) | go_simp
  have cb1 : w1.cell? ⟨w.heap.size, 1, none⟩ = some (.slice ab x.b.length kb) := by rw [hw1]; first | (simp; done) | go_simp
  have cc1 : w1.cell? ⟨w.heap.size, 2, none⟩ = some (.slice ac x.c.length kc) := by rw [hw1]; first | (simp; done) | go_simp
  have ta1 := ta.keep e1 (by omega)
  have tb1 := tb.keep e1 (by omega)
  have tc1 := tc.keep e1 (by omega)
  clear hw1
  refine (lok_spec o l h _ x.a _ ta1 (by omega) _ ha).mono ?_; rintro e w2 ⟨rfl, f2⟩
  have b2 := b1.trans (f2.mono (by omega))
  have z2 := f2.size
  have ca2 := cell_keep f2 ca1
  have cb2 := cell_keep f2 cb1
  have cc2 := cell_keep f2 cc1
  have ta2 := ta1.keep f2 (by omega)
  have tb2 := tb1.keep f2 (by omega)
  have tc2 := tc1.keep f2 (by omega)
  clear ca1 cb1 cc1 ta1 tb1 tc1
  go_wp2_with fail
  go_ret
  exact ⟨ret_bool HR.out.symm, b2⟩
 cases hb : linOk x.b
 ·have HR : Hid (conW n x = false) := Lib.hid (by simp [conW, linW_no hb])
  go_enter Tryz.func61, Tryz.ntmps61
  go_wp2_with fail
  refine name_call fun w1 hw1 => ?_
  have b1 : Below w.heap.size w w1 := by rw [hw1]; (repeat (with_reducible first | exact bR _ _ | assumption | refine bD ?_ | refine bN ?_ _ | refine bA ?_ _ | refine bS ?_ _))
  have z1 : w.heap.size + 1 ≤ w1.heap.size := by rw [hw1]; simp
  have e1 : Below w.heap.size w w1 := by rw [hw1]; (repeat (with_reducible first | exact bR _ _ | assumption | refine bD ?_ | refine bN ?_ _ | refine bA ?_ _ | refine bS ?_ _))
  have ca1 : w1.cell? ⟨w.heap.size, 0, none⟩ = some (.slice aa x.a.length ka) := by rw [hw1]; first | (simp; done) | go_simp
  have cb1 : w1.cell? ⟨w.heap.size, 1, none⟩ = some (.slice ab x.b.length kb) := by rw [hw1]; first | (simp; done) | go_simp
  have cc1 : w1.cell? ⟨w.heap.size, 2, none⟩ = some (.slice ac x.c.length kc) := by rw [hw1]; first | (simp; done) | go_simp
  have ta1 := ta.keep e1 (by omega)
  have tb1 := tb.keep e1 (by omega)
  have tc1 := tc.keep e1 (by omega)
  clear hw1
  refine (lok_spec o l h _ x.a _ ta1 (by omega) _ ha).mono ?_; rintro e w2 ⟨rfl, f2⟩
  have b2 := b1.trans (f2.mono (by omega))
  have z2 := f2.size
  have ca2 := cell_keep f2 ca1
  have cb2 := cell_keep f2 cb1
  have cc2 := cell_keep f2 cc1
  have ta2 := ta1.keep f2 (by omega)
  have tb2 := tb1.keep f2 (by omega)
  have tc2 := tc1.keep f2 (by omega)
  clear ca1 cb1 cc1 ta1 tb1 tc1
  have lca2 : w.heap.size < w2.heap.size := World.block_lt_of_cell? _ _ ca2
  go_wp2_with fail
  refine name_call fun w3 hw3 => ?_
  have b3 : Below w.heap.size w w3 := by rw [hw3]; (repeat (with_reducible first | exact bR _ _ | assumption | refine bD ?_ | refine bN ?_ _ | refine bA ?_ _ | refine bS ?_ _))
  have z3 : w2.heap.size + 0 ≤ w3.heap.size := by rw [hw3]; simp
  have e3 : Below w2.heap.size w2 w3 := by rw [hw3]; (repeat (with_reducible first | exact bR _ _ | assumption | refine bD ?_ | refine bN ?_ _ | refine bA ?_ _ | refine bS ?_ _))
  have ca3 := cell_keep e3 ca2
  have cb3 := cell_keep e3 cb2
  have cc3 := cell_keep e3 cc2
  have ta3 := ta2.keep e3 (by omega)
  have tb3 := tb2.keep e3 (by omega)
  have tc3 := tc2.keep e3 (by omega)
  clear hw3 lca2 ca2 cb2 cc2 ta2 tb2 tc2
  refine (lok_spec o l h _ x.b _ tb3 (by omega) _ hb).mono ?_; rintro e w4 ⟨rfl, f4⟩
  have b4 := b3.trans (f4.mono (by omega))
  have z4 := f4.size
  have ca4 := cell_keep f4 ca3
  have cb4 := cell_keep f4 cb3
  have cc4 := cell_keep f4 cc3
  have ta4 := ta3.keep f4 (by omega)
  have tb4 := tb3.keep f4 (by omega)
  have tc4 := tc3.keep f4 (by omega)
  clear ca3 cb3 cc3 ta3 tb3 tc3
  go_wp2_with fail
  go_ret
  exact ⟨ret_bool HR.out.symm, b4⟩
 cases hc : linOk x.c
 ·have HR : Hid (conW n x = false) := Lib.hid (by simp [conW, linW_no hc])
  go_enter Tryz.func61, Tryz.ntmps61
  go_wp2_with fail
  refine name_call fun w1 hw1 => ?_
  have b1 : Below w.heap.size w w1 := by rw [hw1]; (repeat (with_reducible first | exact bR _ _ | assumption | refine bD ?_ | refine bN ?_ _ | refine bA ?_ _ | refine bS ?_ _))
  have z1 : w.heap.size + 1 ≤ w1.heap.size := by rw [hw1]; simp
  have e1 : Below w.heap.size w w1 := by rw [hw1]; (repeat (with_reducible first | exact bR _ _ | assumption | refine bD ?_ | refine bN ?_ _ | refine bA ?_ _ | refine bS ?_ _))
  have ca1 : w1.cell? ⟨w.heap.size, 0, none⟩ = some (.slice aa x.a.length ka) := by rw [hw1]; first | (simp; done) | go_simp
  have cb1 : w1.cell? ⟨w.heap.size, 1, none⟩ = some (.slice ab x.b.length kb) := by rw [hw1]; first | (simp; done) | go_simp
  have cc1 : w1.cell? ⟨w.heap.size, 2, none⟩ = some (.slice ac x.c.length kc) := by rw [hw1]; first | (simp; done) | go_simp
  have ta1 := ta.keep e1 (by omega)
  have tb1 := tb.keep e1 (by omega)
  have tc1 := tc.keep e1 (by omega)
  clear hw1
  refine (lok_spec o l h _ x.a _ ta1 (by omega) _ ha).mono ?_; rintro e w2 ⟨rfl, f2⟩
  have b2 := b1.trans (f2.mono (by omega))
  have z2 := f2.size
  have ca2 := cell_keep f2 ca1
  have cb2 := cell_keep f2 cb1
  have cc2 := cell_keep f2 cc1
  have ta2 := ta1.keep f2 (by omega)
  have tb2 := tb1.keep f2 (by omega)
  have tc2 := tc1.keep f2 (by omega)
  clear ca1 cb1 cc1 ta1 tb1 tc1
  have lca2 : w.heap.size < w2.heap.size := World.block_lt_of_cell? _ _ ca2
  go_wp2_with fail
  refine name_call fun w3 hw3 => ?_
  have b3 : Below w.heap.size w w3 := by rw [hw3]; (repeat (with_reducible first | exact bR _ _ | assumption | refine bD ?_ | refine bN ?_ _ | refine bA ?_ _ | refine bS ?_ _))
  have z3 : w2.heap.size + 0 ≤ w3.heap.size := by rw [hw3]; simp
  have e3 : Below w2.heap.size w2 w3 := by rw [hw3]; (repeat (with_reducible first | exact bR _ _ | assumption | refine bD ?_ | refine bN ?_ _ | refine bA ?_ _ | refine bS ?_ _))
  have ca3 := cell_keep e3 ca2
  have cb3 := cell_keep e3 cb2
  have cc3 := cell_keep e3 cc2
  have ta3 := ta2.keep e3 (by omega)
  have tb3 := tb2.keep e3 (by omega)
  have tc3 := tc2.keep e3 (by omega)
  clear hw3 lca2 ca2 cb2 cc2 ta2 tb2 tc2
  refine (lok_spec o l h _ x.b _ tb3 (by omega) _ hb).mono ?_; rintro e w4 ⟨rfl, f4⟩
  have b4 := b3.trans (f4.mono (by omega))
  have z4 := f4.size
  have ca4 := cell_keep f4 ca3
  have cb4 := cell_keep f4 cb3
  have cc4 := cell_keep f4 cc3
  have ta4 := ta3.keep f4 (by omega)
  have tb4 := tb3.keep f4 (by omega)
  have tc4 := tc3.keep f4 (by omega)
  clear ca3 cb3 cc3 ta3 tb3 tc3
  have lca4 : w.heap.size < w4.heap.size := World.block_lt_of_cell? _ _ ca4
  go_wp2_with fail
  refine name_call fun w5 hw5 => ?_
  have b5 : Below w.heap.size w w5 := by rw [hw5]; (repeat (with_reducible first | exact bR _ _ | assumption | refine bD ?_ | refine bN ?_ _ | refine bA ?_ _ | refine bS ?_ _))
  have z5 : w4.heap.size + 0 ≤ w5.heap.size := by rw [hw5]; simp
  have e5 : Below w4.heap.size w4 w5 := by rw [hw5]; (repeat (with_reducible first | exact bR _ _ | assumption | refine bD ?_ | refine bN ?_ _ | refine bA ?_ _ | refine bS ?_ _))
  have ca5 := cell_keep e5 ca4
  have cb5 := cell_keep e5 cb4
  have cc5 := cell_keep e5 cc4
  have ta5 := ta4.keep e5 (by omega)
  have tb5 := tb4.keep e5 (by omega)
  have tc5 := tc4.keep e5 (by omega)
  clear hw5 lca4 ca4 cb4 cc4 ta4 tb4 tc4
  refine (lok_spec o l h _ x.c _ tc5 (by omega) _ hc).mono ?_; rintro e w6 ⟨rfl, f6⟩
  have b6 := b5.trans (f6.mono (by omega))
  have z6 := f6.size
  have ca6 := cell_keep f6 ca5
  have cb6 := cell_keep f6 cb5
  have cc6 := cell_keep f6 cc5
  have ta6 := ta5.keep f6 (by omega)
  have tb6 := tb5.keep f6 (by omega)
  have tc6 := tc5.keep f6 (by omega)
  clear ca5 cb5 cc5 ta5 tb5 tc5
  go_wp2_with fail
  go_ret
  exact ⟨ret_bool HR.out.symm, b6⟩
 cases ga : linW n x.a
 ·have HR : Hid (conW n x = false) := Lib.hid (by simp [conW, ga])
  go_enter Tryz.func61, Tryz.ntmps61
  go_wp2_with fail
  refine name_call fun w1 hw1 => ?_
  have b1 : Below w.heap.size w w1 := by rw [hw1]; (repeat (with_reducible first | exact bR _ _ | assumption | refine bD ?_ | refine bN ?_ _ | refine bA ?_ _ | refine bS ?_ _))
  have z1 : w.heap.size + 1 ≤ w1.heap.size := by rw [hw1]; simp
  have e1 : Below w.heap.size w w1 := by rw [hw1]; (repeat (with_reducible first | exact bR _ _ | assumption | refine bD ?_ | refine bN ?_ _ | refine bA ?_ _ | refine bS ?_ _))
  have ca1 : w1.cell? ⟨w.heap.size, 0, none⟩ = some (.slice aa x.a.length ka) := by rw [hw1]; first | (simp; done) | go_simp
  have cb1 : w1.cell? ⟨w.heap.size, 1, none⟩ = some (.slice ab x.b.length kb) := by rw [hw1]; first | (simp; done) | go_simp
  have cc1 : w1.cell? ⟨w.heap.size, 2, none⟩ = some (.slice ac x.c.length kc) := by rw [hw1]; first | (simp; done) | go_simp
  have ta1 := ta.keep e1 (by omega)
  have tb1 := tb.keep e1 (by omega)
  have tc1 := tc.keep e1 (by omega)
  clear hw1
  refine (lok_spec o l h _ x.a _ ta1 (by omega) _ ha).mono ?_; rintro e w2 ⟨rfl, f2⟩
  have b2 := b1.trans (f2.mono (by omega))
  have z2 := f2.size
  have ca2 := cell_keep f2 ca1
  have cb2 := cell_keep f2 cb1
  have cc2 := cell_keep f2 cc1
  have ta2 := ta1.keep f2 (by omega)
  have tb2 := tb1.keep f2 (by omega)
  have tc2 := tc1.keep f2 (by omega)
  clear ca1 cb1 cc1 ta1 tb1 tc1
  have lca2 : w.heap.size < w2.heap.size := World.block_lt_of_cell? _ _ ca2
  go_wp2_with fail
  refine name_call fun w3 hw3 => ?_
  have b3 : Below w.heap.size w w3 := by rw [hw3]; (repeat (with_reducible first | exact bR _ _ | assumption | refine bD ?_ | refine bN ?_ _ | refine bA ?_ _ | refine bS ?_ _))
  have z3 : w2.heap.size + 0 ≤ w3.heap.size := by rw [hw3]; simp
  have e3 : Below w2.heap.size w2 w3 := by rw [hw3]; (repeat (with_reducible first | exact bR _ _ | assumption | refine bD ?_ | refine bN ?_ _ | refine bA ?_ _ | refine bS ?_ _))
  have ca3 := cell_keep e3 ca2
  have cb3 := cell_keep e3 cb2
  have cc3 := cell_keep e3 cc2
  have ta3 := ta2.keep e3 (by omega)
  have tb3 := tb2.keep e3 (by omega)
  have tc3 := tc2.keep e3 (by omega)
  clear hw3 lca2 ca2 cb2 cc2 ta2 tb2 tc2
  refine (lok_spec o l h _ x.b _ tb3 (by omega) _ hb).mono ?_; rintro e w4 ⟨rfl, f4⟩
  have b4 := b3.trans (f4.mono (by omega))
  have z4 := f4.size
  have ca4 := cell_keep f4 ca3
  have cb4 := cell_keep f4 cb3
  have cc4 := cell_keep f4 cc3
  have ta4 := ta3.keep f4 (by omega)
  have tb4 := tb3.keep f4 (by omega)
  have tc4 := tc3.keep f4 (by omega)
  clear ca3 cb3 cc3 ta3 tb3 tc3
  have lca4 : w.heap.size < w4.heap.size := World.block_lt_of_cell? _ _ ca4
  go_wp2_with fail
  refine name_call fun w5 hw5 => ?_
  have b5 : Below w.heap.size w w5 := by rw [hw5]; (repeat (with_reducible first | exact bR _ _ | assumption | refine bD ?_ | refine bN ?_ _ | refine bA ?_ _ | refine bS ?_ _))
  have z5 : w4.heap.size + 0 ≤ w5.heap.size := by rw [hw5]; simp
  have e5 : Below w4.heap.size w4 w5 := by rw [hw5]; (repeat (with_reducible first | exact bR _ _ | assumption | refine bD ?_ | refine bN ?_ _ | refine bA ?_ _ | refine bS ?_ _))
  have ca5 := cell_keep e5 ca4
  have cb5 := cell_keep e5 cb4
  have cc5 := cell_keep e5 cc4
  have ta5 := ta4.keep e5 (by omega)
  have tb5 := tb4.keep e5 (by omega)
  have tc5 := tc4.keep e5 (by omega)
  clear hw5 lca4 ca4 cb4 cc4 ta4 tb4 tc4
  refine (lok_spec o l h _ x.c _ tc5 (by omega) _ hc).mono ?_; rintro e w6 ⟨rfl, f6⟩
  have b6 := b5.trans (f6.mono (by omega))
  have z6 := f6.size
  have ca6 := cell_keep f6 ca5
  have cb6 := cell_keep f6 cb5
  have cc6 := cell_keep f6 cc5
  have ta6 := ta5.keep f6 (by omega)
  have tb6 := tb5.keep f6 (by omega)
  have tc6 := tc5.keep f6 (by omega)
  clear ca5 cb5 cc5 ta5 tb5 tc5
  have lca6 : w.heap.size < w6.heap.size := World.block_lt_of_cell? _ _ ca6
  go_wp2_with fail
  refine name_call fun w7 hw7 => ?_
  have b7 : Below w.heap.size w w7 := by rw [hw7]; (repeat (with_reducible first | exact bR _ _ | assumption | refine bD ?_ | refine bN ?_ _ | refine bA ?_ _ | refine bS ?_ _))
  have z7 : w6.heap.size + 0 ≤ w7.heap.size := by rw [hw7]; simp
  have e7 : Below w6.heap.size w6 w7 := by rw [hw7]; (repeat (with_reducible first | exact bR _ _ | assumption | refine bD ?_ | refine bN ?_ _ | refine bA ?_ _ | refine bS ?_ _))
  have ca7 := cell_keep e7 ca6
  have cb7 := cell_keep e7 cb6
  have cc7 := cell_keep e7 cc6
  have ta7 := ta6.keep e7 (by omega)
  have tb7 := tb6.keep e7 (by omega)
  have tc7 := tc6.keep e7 (by omega)
  clear hw7 lca6 ca6 cb6 cc6 ta6 tb6 tc6
  refine (l2w_any o l h _ x.a n _ ta7 (by omega) n0 n1 ha _ ga).mono ?_; rintro e w8 ⟨rfl, f8⟩
  have b8 := b7.trans (f8.mono (by omega))
  have z8 := f8.size
  have ca8 := cell_keep f8 ca7
  have cb8 := cell_keep f8 cb7
  have cc8 := cell_keep f8 cc7
  have ta8 := ta7.keep f8 (by omega)
  have tb8 := tb7.keep f8 (by omega)
  have tc8 := tc7.keep f8 (by omega)
  clear ca7 cb7 cc7 ta7 tb7 tc7
  go_wp2_with fail
  go_ret
  exact ⟨ret_bool HR.out.symm, b8⟩
 cases gb : linW n x.b
 ·have HR : Hid (conW n x = false) := Lib.hid (by simp [conW, gb])
  go_enter Tryz.func61, Tryz.ntmps61
  go_wp2_with fail
  refine name_call fun w1 hw1 => ?_
  have b1 : Below w.heap.size w w1 := by rw [hw1]; (repeat (with_reducible first | exact bR _ _ | assumption | refine bD ?_ | refine bN ?_ _ | refine bA ?_ _ | refine bS ?_ _))
  have z1 : w.heap.size + 1 ≤ w1.heap.size := by rw [hw1]; simp
  have e1 : Below w.heap.size w w1 := by rw [hw1]; (repeat (with_reducible first | exact bR _ _ | assumption | refine bD ?_ | refine bN ?_ _ | refine bA ?_ _ | refine bS ?_ _))
  have ca1 : w1.cell? ⟨w.heap.size, 0, none⟩ = some (.slice aa x.a.length ka) := by rw [hw1]; first | (simp; done) | go_simp
  have cb1 : w1.cell? ⟨w.heap.size, 1, none⟩ = some (.slice ab x.b.length kb) := by rw [hw1]; first | (simp; done) | go_simp
  have cc1 : w1.cell? ⟨w.heap.size, 2, none⟩ = some (.slice ac x.c.length kc) := by rw [hw1]; first | (simp; done) | go_simp
  have ta1 := ta.keep e1 (by omega)
  have tb1 := tb.keep e1 (by omega)
  have tc1 := tc.keep e1 (by omega)
  clear hw1
  refine (lok_spec o l h _ x.a _ ta1 (by omega) _ ha).mono ?_; rintro e w2 ⟨rfl, f2⟩
  have b2 := b1.trans (f2.mono (by omega))
  have z2 := f2.size
  have ca2 := cell_keep f2 ca1
  have cb2 := cell_keep f2 cb1
  have cc2 := cell_keep f2 cc1
  have ta2 := ta1.keep f2 (by omega)
  have tb2 := tb1.keep f2 (by omega)
  have tc2 := tc1.keep f2 (by omega)
  clear ca1 cb1 cc1 ta1 tb1 tc1
  have lca2 : w.heap.size < w2.heap.size := World.block_lt_of_cell? _ _ ca2
  go_wp2_with fail
  refine name_call fun w3 hw3 => ?_
  have b3 : Below w.heap.size w w3 := by rw [hw3]; (repeat (with_reducible first | exact bR _ _ | assumption | refine bD ?_ | refine bN ?_ _ | refine bA ?_ _ | refine bS ?_ _))
  have z3 : w2.heap.size + 0 ≤ w3.heap.size := by rw [hw3]; simp
  have e3 : Below w2.heap.size w2 w3 := by rw [hw3]; (repeat (with_reducible first | exact bR _ _ | assumption | refine bD ?_ | refine bN ?_ _ | refine bA ?_ _ | refine bS ?_ _))
  have ca3 := cell_keep e3 ca2
  have cb3 := cell_keep e3 cb2
  have cc3 := cell_keep e3 cc2
  have ta3 := ta2.keep e3 (by omega)
  have tb3 := tb2.keep e3 (by omega)
  have tc3 := tc2.keep e3 (by omega)
  clear hw3 lca2 ca2 cb2 cc2 ta2 tb2 tc2
  refine (lok_spec o l h _ x.b _ tb3 (by omega) _ hb).mono ?_; rintro e w4 ⟨rfl, f4⟩
  have b4 := b3.trans (f4.mono (by omega))
  have z4 := f4.size
  have ca4 := cell_keep f4 ca3
  have cb4 := cell_keep f4 cb3
  have cc4 := cell_keep f4 cc3
  have ta4 := ta3.keep f4 (by omega)
  have tb4 := tb3.keep f4 (by omega)
  have tc4 := tc3.keep f4 (by omega)
  clear ca3 cb3 cc3 ta3 tb3 tc3
  have lca4 : w.heap.size < w4.heap.size := World.block_lt_of_cell? _ _ ca4
  go_wp2_with fail
  refine name_call fun w5 hw5 => ?_
  have b5 : Below w.heap.size w w5 := by rw [hw5]; (repeat (with_reducible first | exact bR _ _ | assumption | refine bD ?_ | refine bN ?_ _ | refine bA ?_ _ | refine bS ?_ _))
  have z5 : w4.heap.size + 0 ≤ w5.heap.size := by rw [hw5]; simp
  have e5 : Below w4.heap.size w4 w5 := by rw [hw5]; (repeat (with_reducible first | exact bR _ _ | assumption | refine bD ?_ | refine bN ?_ _ | refine bA ?_ _ | refine bS ?_ _))
  have ca5 := cell_keep e5 ca4
  have cb5 := cell_keep e5 cb4
  have cc5 := cell_keep e5 cc4
  have ta5 := ta4.keep e5 (by omega)
  have tb5 := tb4.keep e5 (by omega)
  have tc5 := tc4.keep e5 (by omega)
  clear hw5 lca4 ca4 cb4 cc4 ta4 tb4 tc4
  refine (lok_spec o l h _ x.c _ tc5 (by omega) _ hc).mono ?_; rintro e w6 ⟨rfl, f6⟩
  have b6 := b5.trans (f6.mono (by omega))
  have z6 := f6.size
  have ca6 := cell_keep f6 ca5
  have cb6 := cell_keep f6 cb5
  have cc6 := cell_keep f6 cc5
  have ta6 := ta5.keep f6 (by omega)
  have tb6 := tb5.keep f6 (by omega)
  have tc6 := tc5.keep f6 (by omega)
  clear ca5 cb5 cc5 ta5 tb5 tc5
  have lca6 : w.heap.size < w6.heap.size := World.block_lt_of_cell? _ _ ca6
  go_wp2_with fail
  refine name_call fun w7 hw7 => ?_
  have b7 : Below w.heap.size w w7 := by rw [hw7]; (repeat (with_reducible first | exact bR _ _ | assumption | refine bD ?_ | refine bN ?_ _ | refine bA ?_ _ | refine bS ?_ _))
  have z7 : w6.heap.size + 0 ≤ w7.heap.size := by rw [hw7]; simp
  have e7 : Below w6.heap.size w6 w7 := by rw [hw7]; (repeat (with_reducible first | exact bR _ _ | assumption | refine bD ?_ | refine bN ?_ _ | refine bA ?_ _ | refine bS ?_ _))
  have ca7 := cell_keep e7 ca6
  have cb7 := cell_keep e7 cb6
  have cc7 := cell_keep e7 cc6
  have ta7 := ta6.keep e7 (by omega)
  have tb7 := tb6.keep e7 (by omega)
  have tc7 := tc6.keep e7 (by omega)
  clear hw7 lca6 ca6 cb6 cc6 ta6 tb6 tc6
  refine (l2w_any o l h _ x.a n _ ta7 (by omega) n0 n1 ha _ ga).mono ?_; rintro e w8 ⟨rfl, f8⟩
  have b8 := b7.trans (f8.mono (by omega))
  have z8 := f8.size
  have ca8 := cell_keep f8 ca7
  have cb8 := cell_keep f8 cb7
  have cc8 := cell_keep f8 cc7
  have ta8 := ta7.keep f8 (by omega)
  have tb8 := tb7.keep f8 (by omega)
  have tc8 := tc7.keep f8 (by omega)
  clear ca7 cb7 cc7 ta7 tb7 tc7
  have lca8 : w.heap.size < w8.heap.size := World.block_lt_of_cell? _ _ ca8
  go_wp2_with fail
  refine name_call fun w9 hw9 => ?_
  have b9 : Below w.heap.size w w9 := by rw [hw9]; (repeat (with_reducible first | exact bR _ _ | assumption | refine bD ?_ | refine bN ?_ _ | refine bA ?_ _ | refine bS ?_ _))
  have z9 : w8.heap.size + 0 ≤ w9.heap.size := by rw [hw9]; simp
  have e9 : Below w8.heap.size w8 w9 := by rw [hw9]; (repeat (with_reducible first | exact bR _ _ | assumption | refine bD ?_ | refine bN ?_ _ | refine bA ?_ _ | refine bS ?_ _))
  have ca9 := cell_keep e9 ca8
  have cb9 := cell_keep e9 cb8
  have cc9 := cell_keep e9 cc8
  have ta9 := ta8.keep e9 (by omega)
  have tb9 := tb8.keep e9 (by omega)
  have tc9 := tc8.keep e9 (by omega)
  clear hw9 lca8 ca8 cb8 cc8 ta8 tb8 tc8
  refine (l2w_any o l h _ x.b n _ tb9 (by omega) n0 n1 hb _ gb).mono ?_; rintro e w10 ⟨rfl, f10⟩
  have b10 := b9.trans (f10.mono (by omega))
  have z10 := f10.size
  have ca10 := cell_keep f10 ca9
  have cb10 := cell_keep f10 cb9
  have cc10 := cell_keep f10 cc9
  have ta10 := ta9.keep f10 (by omega)
  have tb10 := tb9.keep f10 (by omega)
  have tc10 := tc9.keep f10 (by omega)
  clear ca9 cb9 cc9 ta9 tb9 tc9
  go_wp2_with fail
  go_ret
  exact ⟨ret_bool HR.out.symm, b10⟩
 cases gc : linW n x.c
 ·have HR : Hid (conW n x = false) := Lib.hid (by simp [conW, gc])
  go_enter Tryz.func61, Tryz.ntmps61
  go_wp2_with fail
  refine name_call fun w1 hw1 => ?_
  have b1 : Below w.heap.size w w1 := by rw [hw1]; (repeat (with_reducible first | exact bR _ _ | assumption | refine bD ?_ | refine bN ?_ _ | refine bA ?_ _ | refine bS ?_ _))
  have z1 : w.heap.size + 1 ≤ w1.heap.size := by rw [hw1]; simp
  have e1 : Below w.heap.size w w1 := by rw [hw1]; (repeat (with_reducible first | exact bR _ _ | assumption | refine bD ?_ | refine bN ?_ _ | refine bA ?_ _ | refine bS ?_ _))
  have ca1 : w1.cell? ⟨w.heap.size, 0, none⟩ = some (.slice aa x.a.length ka) := by rw [hw1]; first | (simp; done) | go_simp
  have cb1 : w1.cell? ⟨w.heap.size, 1, none⟩ = some (.slice ab x.b.length kb) := by rw [hw1]; first | (simp; done) | go_simp
  have cc1 : w1.cell? ⟨w.heap.size, 2, none⟩ = some (.slice ac x.c.length kc) := by rw [hw1]; first | (simp; done) | go_simp
  have ta1 := ta.keep e1 (by omega)
  have tb1 := tb.keep e1 (by omega)
  have tc1 := tc.keep e1 (by omega)
  clear hw1
  refine (lok_spec o l h _ x.a _ ta1 (by omega) _ ha).mono ?_; rintro e w2 ⟨rfl, f2⟩
  have b2 := b1.trans (f2.mono (by omega))
  have z2 := f2.size
  have ca2 := cell_keep f2 ca1
  have cb2 := cell_keep f2 cb1
  have cc2 := cell_keep f2 cc1
  have ta2 := ta1.keep f2 (by omega)
  have tb2 := tb1.keep f2 (by omega)
  have tc2 := tc1.keep f2 (by omega)
  clear ca1 cb1 cc1 ta1 tb1 tc1
  have lca2 : w.heap.size < w2.heap.size := World.block_lt_of_cell? _ _ ca2
  go_wp2_with fail
  refine name_call fun w3 hw3 => ?_
  have b3 : Below w.heap.size w w3 := by rw [hw3]; (repeat (with_reducible first | exact bR _ _ | assumption | refine bD ?_ | refine bN ?_ _ | refine bA ?_ _ | refine bS ?_ _))
  have z3 : w2.heap.size + 0 ≤ w3.heap.size := by rw [hw3]; simp
  have e3 : Below w2.heap.size w2 w3 := by rw [hw3]; (repeat (with_reducible first | exact bR _ _ | assumption | refine bD ?_ | refine bN ?_ _ | refine bA ?_ _ | refine bS ?_ _))
  have ca3 := cell_keep e3 ca2
  have cb3 := cell_keep e3 cb2
  have cc3 := cell_keep e3 cc2
  have ta3 := ta2.keep e3 (by omega)
  have tb3 := tb2.keep e3 (by omega)
  have tc3 := tc2.keep e3 (by omega)
  clear hw3 lca2 ca2 cb2 cc2 ta2 tb2 tc2
  refine (lok_spec o l h _ x.b _ tb3 (by omega) _ hb).mono ?_; rintro e w4 ⟨rfl, f4⟩
  have b4 := b3.trans (f4.mono (by omega))
  have z4 := f4.size
  have ca4 := cell_keep f4 ca3
  have cb4 := cell_keep f4 cb3
  have cc4 := cell_keep f4 cc3
  have ta4 := ta3.keep f4 (by omega)
  have tb4 := tb3.keep f4 (by omega)
  have tc4 := tc3.keep f4 (by omega)
  clear ca3 cb3 cc3 ta3 tb3 tc3
  have lca4 : w.heap.size < w4.heap.size := World.block_lt_of_cell? _ _ ca4
  go_wp2_with fail
  refine name_call fun w5 hw5 => ?_
  have b5 : Below w.heap.size w w5 := by rw [hw5]; (repeat (with_reducible first | exact bR _ _ | assumption | refine bD ?_ | refine bN ?_ _ | refine bA ?_ _ | refine bS ?_ _))
  have z5 : w4.heap.size + 0 ≤ w5.heap.size := by rw [hw5]; simp
  have e5 : Below w4.heap.size w4 w5 := by rw [hw5]; (repeat (with_reducible first | exact bR _ _ | assumption | refine bD ?_ | refine bN ?_ _ | refine bA ?_ _ | refine bS ?_ _))
  have ca5 := cell_keep e5 ca4
  have cb5 := cell_keep e5 cb4
  have cc5 := cell_keep e5 cc4
  have ta5 := ta4.keep e5 (by omega)
  have tb5 := tb4.keep e5 (by omega)
  have tc5 := tc4.keep e5 (by omega)
  clear hw5 lca4 ca4 cb4 cc4 ta4 tb4 tc4
  refine (lok_spec o l h _ x.c _ tc5 (by omega) _ hc).mono ?_; rintro e w6 ⟨rfl, f6⟩
  have b6 := b5.trans (f6.mono (by omega))
  have z6 := f6.size
  have ca6 := cell_keep f6 ca5
  have cb6 := cell_keep f6 cb5
  have cc6 := cell_keep f6 cc5
  have ta6 := ta5.keep f6 (by omega)
  have tb6 := tb5.keep f6 (by omega)
  have tc6 := tc5.keep f6 (by omega)
  clear ca5 cb5 cc5 ta5 tb5 tc5
  have lca6 : w.heap.size < w6.heap.size := World.block_lt_of_cell? _ _ ca6
  go_wp2_with fail
  refine name_call fun w7 hw7 => ?_
  have b7 : Below w.heap.size w w7 := by rw [hw7]; (repeat (with_reducible first | exact bR _ _ | assumption | refine bD ?_ | refine bN ?_ _ | refine bA ?_ _ | refine bS ?_ _))
  have z7 : w6.heap.size + 0 ≤ w7.heap.size := by rw [hw7]; simp
  have e7 : Below w6.heap.size w6 w7 := by rw [hw7]; (repeat (with_reducible first | exact bR _ _ | assumption | refine bD ?_ | refine bN ?_ _ | refine bA ?_ _ | refine bS ?_ _))
  have ca7 := cell_keep e7 ca6
  have cb7 := cell_keep e7 cb6
  have cc7 := cell_keep e7 cc6
  have ta7 := ta6.keep e7 (by omega)
  have tb7 := tb6.keep e7 (by omega)
  have tc7 := tc6.keep e7 (by omega)
  clear hw7 lca6 ca6 cb6 cc6 ta6 tb6 tc6
  refine (l2w_any o l h _ x.a n _ ta7 (by omega) n0 n1 ha _ ga).mono ?_; rintro e w8 ⟨rfl, f8⟩
  have b8 := b7.trans (f8.mono (by omega))
  have z8 := f8.size
  have ca8 := cell_keep f8 ca7
  have cb8 := cell_keep f8 cb7
  have cc8 := cell_keep f8 cc7
  have ta8 := ta7.keep f8 (by omega)
  have tb8 := tb7.keep f8 (by omega)
  have tc8 := tc7.keep f8 (by omega)
  clear ca7 cb7 cc7 ta7 tb7 tc7
  have lca8 : w.heap.size < w8.heap.size := World.block_lt_of_cell? _ _ ca8
  go_wp2_with fail
  refine name_call fun w9 hw9 => ?_
  have b9 : Below w.heap.size w w9 := by rw [hw9]; (repeat (with_reducible first | exact bR _ _ | assumption | refine bD ?_ | refine bN ?_ _ | refine bA ?_ _ | refine bS ?_ _))
  have z9 : w8.heap.size + 0 ≤ w9.heap.size := by rw [hw9]; simp
  have e9 : Below w8.heap.size w8 w9 := by rw [hw9]; (repeat (with_reducible first | exact bR _ _ | assumption | refine bD ?_ | refine bN ?_ _ | refine bA ?_ _ | refine bS ?_ _))
  have ca9 := cell_keep e9 ca8
  have cb9 := cell_keep e9 cb8
  have cc9 := cell_keep e9 cc8
  have ta9 := ta8.keep e9 (by omega)
  have tb9 := tb8.keep e9 (by omega)
  have tc9 := tc8.keep e9 (by omega)
  clear hw9 lca8 ca8 cb8 cc8 ta8 tb8 tc8
  refine (l2w_any o l h _ x.b n _ tb9 (by omega) n0 n1 hb _ gb).mono ?_; rintro e w10 ⟨rfl, f10⟩
  have b10 := b9.trans (f10.mono (by omega))
  have z10 := f10.size
  have ca10 := cell_keep f10 ca9
  have cb10 := cell_keep f10 cb9
  have cc10 := cell_keep f10 cc9
  have ta10 := ta9.keep f10 (by omega)
  have tb10 := tb9.keep f10 (by omega)
  have tc10 := tc9.keep f10 (by omega)
  clear ca9 cb9 cc9 ta9 tb9 tc9
  have lca10 : w.heap.size < w10.heap.size := World.block_lt_of_cell? _ _ ca10
  go_wp2_with fail
  refine name_call fun w11 hw11 => ?_
  have b11 : Below w.heap.size w w11 := by rw [hw11]; (repeat (with_reducible first | exact bR _ _ | assumption | refine bD ?_ | refine bN ?_ _ | refine bA ?_ _ | refine bS ?_ _))
  have z11 : w10.heap.size + 0 ≤ w11.heap.size := by rw [hw11]; simp
  have e11 : Below w10.heap.size w10 w11 := by rw [hw11]; (repeat (with_reducible first | exact bR _ _ | assumption | refine bD ?_ | refine bN ?_ _ | refine bA ?_ _ | refine bS ?_ _))
  have ca11 := cell_keep e11 ca10
  have cb11 := cell_keep e11 cb10
  have cc11 := cell_keep e11 cc10
  have ta11 := ta10.keep e11 (by omega)
  have tb11 := tb10.keep e11 (by omega)
  have tc11 := tc10.keep e11 (by omega)
  clear hw11 lca10 ca10 cb10 cc10 ta10 tb10 tc10
  refine (l2w_any o l h _ x.c n _ tc11 (by omega) n0 n1 hc _ gc).mono ?_; rintro e w12 ⟨rfl, f12⟩
  have b12 := b11.trans (f12.mono (by omega))
  have z12 := f12.size
  have ca12 := cell_keep f12 ca11
  have cb12 := cell_keep f12 cb11
  have cc12 := cell_keep f12 cc11
  have ta12 := ta11.keep f12 (by omega)
  have tb12 := tb11.keep f12 (by omega)
  have tc12 := tc11.keep f12 (by omega)
  clear ca11 cb11 cc11 ta11 tb11 tc11
  go_wp2_with fail
  go_ret
  exact ⟨ret_bool HR.out.symm, b12⟩
 ·have HR : Hid (conW n x = true) := Lib.hid (by simp [conW, ga, gb, gc])
  go_enter Tryz.func61, Tryz.ntmps61
  go_wp2_with fail
  refine name_call fun w1 hw1 => ?_
  have b1 : Below w.heap.size w w1 := by rw [hw1]; (repeat (with_reducible first | exact bR _ _ | assumption | refine bD ?_ | refine bN ?_ _ | refine bA ?_ _ | refine bS ?_ _))
  have z1 : w.heap.size + 1 ≤ w1.heap.size := by rw [hw1]; simp
  have e1 : Below w.heap.size w w1 := by rw [hw1]; (repeat (with_reducible first | exact bR _ _ | assumption | refine bD ?_ | refine bN ?_ _ | refine bA ?_ _ | refine bS ?_ _))
  have ca1 : w1.cell? ⟨w.heap.size, 0, none⟩ = some (.slice aa x.a.length ka) := by rw [hw1]; first | (simp; done) | go_simp
  have cb1 : w1.cell? ⟨w.heap.size, 1, none⟩ = some (.slice ab x.b.length kb) := by rw [hw1]; first | (simp; done) | go_simp
  have cc1 : w1.cell? ⟨w.heap.size, 2, none⟩ = some (.slice ac x.c.length kc) := by rw [hw1]; first | (simp; done) | go_simp
  have ta1 := ta.keep e1 (by omega)
  have tb1 := tb.keep e1 (by omega)
  have tc1 := tc.keep e1 (by omega)
  clear hw1
  refine (lok_spec o l h _ x.a _ ta1 (by omega) _ ha).mono ?_; rintro e w2 ⟨rfl, f2⟩
  have b2 := b1.trans (f2.mono (by omega))
  have z2 := f2.size
  have ca2 := cell_keep f2 ca1
  have cb2 := cell_keep f2 cb1
  have cc2 := cell_keep f2 cc1
  have ta2 := ta1.keep f2 (by omega)
  have tb2 := tb1.keep f2 (by omega)
  have tc2 := tc1.keep f2 (by omega)
  clear ca1 cb1 cc1 ta1 tb1 tc1
  have lca2 : w.heap.size < w2.heap.size := World.block_lt_of_cell? _ _ ca2
  go_wp2_with fail
  refine name_call fun w3 hw3 => ?_
  have b3 : Below w.heap.size w w3 := by rw [hw3]; (repeat (with_reducible first | exact bR _ _ | assumption | refine bD ?_ | refine bN ?_ _ | refine bA ?_ _ | refine bS ?_ _))
  have z3 : w2.heap.size + 0 ≤ w3.heap.size := by rw [hw3]; simp
  have e3 : Below w2.heap.size w2 w3 := by rw [hw3]; (repeat (with_reducible first | exact bR _ _ | assumption | refine bD ?_ | refine bN ?_ _ | refine bA ?_ _ | refine bS ?_ _))
  have ca3 := cell_keep e3 ca2
  have cb3 := cell_keep e3 cb2
  have cc3 := cell_keep e3 cc2
  have ta3 := ta2.keep e3 (by omega)
  have tb3 := tb2.keep e3 (by omega)
  have tc3 := tc2.keep e3 (by omega)
  clear hw3 lca2 ca2 cb2 cc2 ta2 tb2 tc2
  refine (lok_spec o l h _ x.b _ tb3 (by omega) _ hb).mono ?_; rintro e w4 ⟨rfl, f4⟩
  have b4 := b3.trans (f4.mono (by omega))
  have z4 := f4.size
  have ca4 := cell_keep f4 ca3
  have cb4 := cell_keep f4 cb3
  have cc4 := cell_keep f4 cc3
  have ta4 := ta3.keep f4 (by omega)
  have tb4 := tb3.keep f4 (by omega)
  have tc4 := tc3.keep f4 (by omega)
  clear ca3 cb3 cc3 ta3 tb3 tc3
  have lca4 : w.heap.size < w4.heap.size := World.block_lt_of_cell? _ _ ca4
  go_wp2_with fail
  refine name_call fun w5 hw5 => ?_
  have b5 : Below w.heap.size w w5 := by rw [hw5]; (repeat (with_reducible first | exact bR _ _ | assumption | refine bD ?_ | refine bN ?_ _ | refine bA ?_ _ | refine bS ?_ _))
  have z5 : w4.heap.size + 0 ≤ w5.heap.size := by rw [hw5]; simp
  have e5 : Below w4.heap.size w4 w5 := by rw [hw5]; (repeat (with_reducible first | exact bR _ _ | assumption | refine bD ?_ | refine bN ?_ _ | refine bA ?_ _ | refine bS ?_ _))
  have ca5 := cell_keep e5 ca4
  have cb5 := cell_keep e5 cb4
  have cc5 := cell_keep e5 cc4
  have ta5 := ta4.keep e5 (by omega)
  have tb5 := tb4.keep e5 (by omega)
  have tc5 := tc4.keep e5 (by omega)
  clear hw5 lca4 ca4 cb4 cc4 ta4 tb4 tc4
  refine (lok_spec o l h _ x.c _ tc5 (by omega) _ hc).mono ?_; rintro e w6 ⟨rfl, f6⟩
  have b6 := b5.trans (f6.mono (by omega))
  have z6 := f6.size
  have ca6 := cell_keep f6 ca5
  have cb6 := cell_keep f6 cb5
  have cc6 := cell_keep f6 cc5
  have ta6 := ta5.keep f6 (by omega)
  have tb6 := tb5.keep f6 (by omega)
  have tc6 := tc5.keep f6 (by omega)
  clear ca5 cb5 cc5 ta5 tb5 tc5
  have lca6 : w.heap.size < w6.heap.size := World.block_lt_of_cell? _ _ ca6
  go_wp2_with fail
  refine name_call fun w7 hw7 => ?_
  have b7 : Below w.heap.size w w7 := by rw [hw7]; (repeat (with_reducible first | exact bR _ _ | assumption | refine bD ?_ | refine bN ?_ _ | refine bA ?_ _ | refine bS ?_ _))
  have z7 : w6.heap.size + 0 ≤ w7.heap.size := by rw [hw7]; simp
  have e7 : Below w6.heap.size w6 w7 := by rw [hw7]; (repeat (with_reducible first | exact bR _ _ | assumption | refine bD ?_ | refine bN ?_ _ | refine bA ?_ _ | refine bS ?_ _))
  have ca7 := cell_keep e7 ca6
  have cb7 := cell_keep e7 cb6
  have cc7 := cell_keep e7 cc6
  have ta7 := ta6.keep e7 (by omega)
  have tb7 := tb6.keep e7 (by omega)
  have tc7 := tc6.keep e7 (by omega)
  clear hw7 lca6 ca6 cb6 cc6 ta6 tb6 tc6
  refine (l2w_any o l h _ x.a n _ ta7 (by omega) n0 n1 ha _ ga).mono ?_; rintro e w8 ⟨rfl, f8⟩
  have b8 := b7.trans (f8.mono (by omega))
  have z8 := f8.size
  have ca8 := cell_keep f8 ca7
  have cb8 := cell_keep f8 cb7
  have cc8 := cell_keep f8 cc7
  have ta8 := ta7.keep f8 (by omega)
  have tb8 := tb7.keep f8 (by omega)
  have tc8 := tc7.keep f8 (by omega)
  clear ca7 cb7 cc7 ta7 tb7 tc7
  have lca8 : w.heap.size < w8.heap.size := World.block_lt_of_cell? _ _ ca8
  go_wp2_with fail
  refine name_call fun w9 hw9 => ?_
  have b9 : Below w.heap.size w w9 := by rw [hw9]; (repeat (with_reducible first | exact bR _ _ | assumption | refine bD ?_ | refine bN ?_ _ | refine bA ?_ _ | refine bS ?_ _))
  have z9 : w8.heap.size + 0 ≤ w9.heap.size := by rw [hw9]; simp
  have e9 : Below w8.heap.size w8 w9 := by rw [hw9]; (repeat (with_reducible first | exact bR _ _ | assumption | refine bD ?_ | refine bN ?_ _ | refine bA ?_ _ | refine bS ?_ _))
  have ca9 := cell_keep e9 ca8
  have cb9 := cell_keep e9 cb8
  have cc9 := cell_keep e9 cc8
  have ta9 := ta8.keep e9 (by omega)
  have tb9 := tb8.keep e9 (by omega)
  have tc9 := tc8.keep e9 (by omega)
  clear hw9 lca8 ca8 cb8 cc8 ta8 tb8 tc8
  refine (l2w_any o l h _ x.b n _ tb9 (by omega) n0 n1 hb _ gb).mono ?_; rintro e w10 ⟨rfl, f10⟩
  have b10 := b9.trans (f10.mono (by omega))
  have z10 := f10.size
  have ca10 := cell_keep f10 ca9
  have cb10 := cell_keep f10 cb9
  have cc10 := cell_keep f10 cc9
  have ta10 := ta9.keep f10 (by omega)
  have tb10 := tb9.keep f10 (by omega)
  have tc10 := tc9.keep f10 (by omega)
  clear ca9 cb9 cc9 ta9 tb9 tc9
  have lca10 : w.heap.size < w10.heap.size := World.block_lt_of_cell? _ _ ca10
  go_wp2_with fail
  refine name_call fun w11 hw11 => ?_
  have b11 : Below w.heap.size w w11 := by rw [hw11]; (repeat (with_reducible first | exact bR _ _ | assumption | refine bD ?_ | refine bN ?_ _ | refine bA ?_ _ | refine bS ?_ _))
  have z11 : w10.heap.size + 0 ≤ w11.heap.size := by rw [hw11]; simp
  have e11 : Below w10.heap.size w10 w11 := by rw [hw11]; (repeat (with_reducible first | exact bR _ _ | assumption | refine bD ?_ | refine bN ?_ _ | refine bA ?_ _ | refine bS ?_ _))
  have ca11 := cell_keep e11 ca10
  have cb11 := cell_keep e11 cb10
  have cc11 := cell_keep e11 cc10
  have ta11 := ta10.keep e11 (by omega)
  have tb11 := tb10.keep e11 (by omega)
  have tc11 := tc10.keep e11 (by omega)
  clear hw11 lca10 ca10 cb10 cc10 ta10 tb10 tc10
  refine (l2w_any o l h _ x.c n _ tc11 (by omega) n0 n1 hc _ gc).mono ?_; rintro e w12 ⟨rfl, f12⟩
  have b12 := b11.trans (f12.mono (by omega))
  have z12 := f12.size
  have ca12 := cell_keep f12 ca11
  have cb12 := cell_keep f12 cb11
  have cc12 := cell_keep f12 cc11
  have ta12 := ta11.keep f12 (by omega)
  have tb12 := tb11.keep f12 (by omega)
  have tc12 := tc11.keep f12 (by omega)
  clear ca11 cb11 cc11 ta11 tb11 tc11
  go_wp2_with fail
  go_ret
  exact ⟨ret_bool HR.out.symm, b12⟩

set_option maxRecDepth 100000 in
set_option maxHeartbeats 6400000 in
theorem l3hint_any (o l h va vb) (x : HintC) (n : Int) (w : World) (ta : Terms o l h w va x.a) (tb : Terms o l h w vb x.b) (fk : Fits x.k) (hw : h ≤ w.heap.size) (n0 : 0 ≤ n) (n1 : n ≤ 1000000) :
  Calls Tryz.prog 58 #[.agg #[.int .i64 x.kind, va, vb, .int .i64 x.k], .int .i64 n] w fun e w' => e = .returned (.bool (hintW n x)) ∧ Below w.heap.size w w' := by
 obtain ⟨aa, ka, rfl, laa, baa⟩ := ta.shape
 obtain ⟨ab, kb, rfl, lab, bab⟩ := tb.shape
 have kf : ∀ {P : Prop} [Decidable P], ¬ P → decide P = false := fun h => decide_eq_false h
 by_cases u0 : x.kind < 0
 ·have HR : Hid (hintW n x = false) := Lib.hid (by simp [hintW, show kindOk x = false from kf (by omega)])
  clear kf
  go_enter Tryz.func58, Tryz.ntmps58
  go_wp2_with fail
  go_ret
  exact ⟨ret_bool HR.out.symm, by (repeat (with_reducible first | exact bR _ _ | assumption | refine bD ?_ | refine bN ?_ _ | refine bA ?_ _ | refine bS ?_ _))⟩
 by_cases u1 : x.kind > 3
 ·have HR : Hid (hintW n x = false) := Lib.hid (by simp [hintW, show kindOk x = false from kf (by omega)])
  clear kf
  go_enter Tryz.func58, Tryz.ntmps58
  go_wp2_with fail
  go_ret
  exact ⟨ret_bool HR.out.symm, by (repeat (with_reducible first | exact bR _ _ | assumption | refine bD ?_ | refine bN ?_ _ | refine bA ?_ _ | refine bS ?_ _))⟩
 have v0 : decide (x.kind < 0) = false := kf u0
 have v1 : decide (x.kind > 3) = false := kf u1
 cases ha : linOk x.a
 ·have HR : Hid (hintW n x = false) := Lib.hid (by simp [hintW, linW_no ha])
  clear kf
  go_enter Tryz.func58, Tryz.ntmps58
  go_wp2_with fail
  refine name_call fun w1 hw1 => ?_
  have b1 : Below w.heap.size w w1 := by rw [hw1]; (repeat (with_reducible first | exact bR _ _ | assumption | refine bD ?_ | refine bN ?_ _ | refine bA ?_ _ | refine bS ?_ _))
  have z1 : w.heap.size + 1 ≤ w1.heap.size := by rw [hw1]; simp
  have e1 : Below w.heap.size w w1 := by rw [hw1]; (repeat (with_reducible first | exact bR _ _ | assumption | refine bD ?_ | refine bN ?_ _ | refine bA ?_ _ | refine bS ?_ _))
  have ci1 : w1.cell? ⟨w.heap.size, 0, none⟩ = some (.int .i64 x.kind) := by rw [hw1]; first | (simp; done) | go_simp
  have ca1 : w1.cell? ⟨w.heap.size, 1, none⟩ = some (.slice aa x.a.length ka) := by rw [hw1]; first | (simp; done) | go_simp
  have cb1 : w1.cell? ⟨w.heap.size, 2, none⟩ = some (.slice ab x.b.length kb) := by rw [hw1]; first | (simp; done) | go_simp
  have ck1 : w1.cell? ⟨w.heap.size, 3, none⟩ = some (.int .i64 x.k) := by rw [hw1]; first | (simp; done) | go_simp
  have ta1 := ta.keep e1 (by omega)
  have tb1 := tb.keep e1 (by omega)
  clear hw1
  refine (lok_spec o l h _ x.a _ ta1 (by omega) _ ha).mono ?_; rintro e w2 ⟨rfl, f2⟩
  have b2 := b1.trans (f2.mono (by omega))
  have z2 := f2.size
  have ci2 := cell_keep f2 ci1
  have ca2 := cell_keep f2 ca1
  have cb2 := cell_keep f2 cb1
  have ck2 := cell_keep f2 ck1
  have ta2 := ta1.keep f2 (by omega)
  have tb2 := tb1.keep f2 (by omega)
  clear ci1 ca1 cb1 ck1 ta1 tb1
  go_wp2_with fail
  go_ret
  exact ⟨ret_bool HR.out.symm, b2⟩
 cases hb : linOk x.b
 ·have HR : Hid (hintW n x = false) := Lib.hid (by simp [hintW, linW_no hb])
  clear kf
  go_enter Tryz.func58, Tryz.ntmps58
  go_wp2_with fail
  refine name_call fun w1 hw1 => ?_
  have b1 : Below w.heap.size w w1 := by rw [hw1]; (repeat (with_reducible first | exact bR _ _ | assumption | refine bD ?_ | refine bN ?_ _ | refine bA ?_ _ | refine bS ?_ _))
  have z1 : w.heap.size + 1 ≤ w1.heap.size := by rw [hw1]; simp
  have e1 : Below w.heap.size w w1 := by rw [hw1]; (repeat (with_reducible first | exact bR _ _ | assumption | refine bD ?_ | refine bN ?_ _ | refine bA ?_ _ | refine bS ?_ _))
  have ci1 : w1.cell? ⟨w.heap.size, 0, none⟩ = some (.int .i64 x.kind) := by rw [hw1]; first | (simp; done) | go_simp
  have ca1 : w1.cell? ⟨w.heap.size, 1, none⟩ = some (.slice aa x.a.length ka) := by rw [hw1]; first | (simp; done) | go_simp
  have cb1 : w1.cell? ⟨w.heap.size, 2, none⟩ = some (.slice ab x.b.length kb) := by rw [hw1]; first | (simp; done) | go_simp
  have ck1 : w1.cell? ⟨w.heap.size, 3, none⟩ = some (.int .i64 x.k) := by rw [hw1]; first | (simp; done) | go_simp
  have ta1 := ta.keep e1 (by omega)
  have tb1 := tb.keep e1 (by omega)
  clear hw1
  refine (lok_spec o l h _ x.a _ ta1 (by omega) _ ha).mono ?_; rintro e w2 ⟨rfl, f2⟩
  have b2 := b1.trans (f2.mono (by omega))
  have z2 := f2.size
  have ci2 := cell_keep f2 ci1
  have ca2 := cell_keep f2 ca1
  have cb2 := cell_keep f2 cb1
  have ck2 := cell_keep f2 ck1
  have ta2 := ta1.keep f2 (by omega)
  have tb2 := tb1.keep f2 (by omega)
  clear ci1 ca1 cb1 ck1 ta1 tb1
  have lci2 : w.heap.size < w2.heap.size := World.block_lt_of_cell? _ _ ci2
  go_wp2_with fail
  refine name_call fun w3 hw3 => ?_
  have b3 : Below w.heap.size w w3 := by rw [hw3]; (repeat (with_reducible first | exact bR _ _ | assumption | refine bD ?_ | refine bN ?_ _ | refine bA ?_ _ | refine bS ?_ _))
  have z3 : w2.heap.size + 0 ≤ w3.heap.size := by rw [hw3]; simp
  have e3 : Below w2.heap.size w2 w3 := by rw [hw3]; (repeat (with_reducible first | exact bR _ _ | assumption | refine bD ?_ | refine bN ?_ _ | refine bA ?_ _ | refine bS ?_ _))
  have ci3 := cell_keep e3 ci2
  have ca3 := cell_keep e3 ca2
  have cb3 := cell_keep e3 cb2
  have ck3 := cell_keep e3 ck2
  have ta3 := ta2.keep e3 (by omega)
  have tb3 := tb2.keep e3 (by omega)
  clear hw3 lci2 ci2 ca2 cb2 ck2 ta2 tb2
  refine (lok_spec o l h _ x.b _ tb3 (by omega) _ hb).mono ?_; rintro e w4 ⟨rfl, f4⟩
  have b4 := b3.trans (f4.mono (by omega))
  have z4 := f4.size
  have ci4 := cell_keep f4 ci3
  have ca4 := cell_keep f4 ca3
  have cb4 := cell_keep f4 cb3
  have ck4 := cell_keep f4 ck3
  have ta4 := ta3.keep f4 (by omega)
  have tb4 := tb3.keep f4 (by omega)
  clear ci3 ca3 cb3 ck3 ta3 tb3
  go_wp2_with fail
  go_ret
  exact ⟨ret_bool HR.out.symm, b4⟩
 cases ga : linW n x.a
 ·have HR : Hid (hintW n x = false) := Lib.hid (by simp [hintW, ga])
  clear kf
  go_enter Tryz.func58, Tryz.ntmps58
  go_wp2_with fail
  refine name_call fun w1 hw1 => ?_
  have b1 : Below w.heap.size w w1 := by rw [hw1]; (repeat (with_reducible first | exact bR _ _ | assumption | refine bD ?_ | refine bN ?_ _ | refine bA ?_ _ | refine bS ?_ _))
  have z1 : w.heap.size + 1 ≤ w1.heap.size := by rw [hw1]; simp
  have e1 : Below w.heap.size w w1 := by rw [hw1]; (repeat (with_reducible first | exact bR _ _ | assumption | refine bD ?_ | refine bN ?_ _ | refine bA ?_ _ | refine bS ?_ _))
  have ci1 : w1.cell? ⟨w.heap.size, 0, none⟩ = some (.int .i64 x.kind) := by rw [hw1]; first | (simp; done) | go_simp
  have ca1 : w1.cell? ⟨w.heap.size, 1, none⟩ = some (.slice aa x.a.length ka) := by rw [hw1]; first | (simp; done) | go_simp
  have cb1 : w1.cell? ⟨w.heap.size, 2, none⟩ = some (.slice ab x.b.length kb) := by rw [hw1]; first | (simp; done) | go_simp
  have ck1 : w1.cell? ⟨w.heap.size, 3, none⟩ = some (.int .i64 x.k) := by rw [hw1]; first | (simp; done) | go_simp
  have ta1 := ta.keep e1 (by omega)
  have tb1 := tb.keep e1 (by omega)
  clear hw1
  refine (lok_spec o l h _ x.a _ ta1 (by omega) _ ha).mono ?_; rintro e w2 ⟨rfl, f2⟩
  have b2 := b1.trans (f2.mono (by omega))
  have z2 := f2.size
  have ci2 := cell_keep f2 ci1
  have ca2 := cell_keep f2 ca1
  have cb2 := cell_keep f2 cb1
  have ck2 := cell_keep f2 ck1
  have ta2 := ta1.keep f2 (by omega)
  have tb2 := tb1.keep f2 (by omega)
  clear ci1 ca1 cb1 ck1 ta1 tb1
  have lci2 : w.heap.size < w2.heap.size := World.block_lt_of_cell? _ _ ci2
  go_wp2_with fail
  refine name_call fun w3 hw3 => ?_
  have b3 : Below w.heap.size w w3 := by rw [hw3]; (repeat (with_reducible first | exact bR _ _ | assumption | refine bD ?_ | refine bN ?_ _ | refine bA ?_ _ | refine bS ?_ _))
  have z3 : w2.heap.size + 0 ≤ w3.heap.size := by rw [hw3]; simp
  have e3 : Below w2.heap.size w2 w3 := by rw [hw3]; (repeat (with_reducible first | exact bR _ _ | assumption | refine bD ?_ | refine bN ?_ _ | refine bA ?_ _ | refine bS ?_ _))
  have ci3 := cell_keep e3 ci2
  have ca3 := cell_keep e3 ca2
  have cb3 := cell_keep e3 cb2
  have ck3 := cell_keep e3 ck2
  have ta3 := ta2.keep e3 (by omega)
  have tb3 := tb2.keep e3 (by omega)
  clear hw3 lci2 ci2 ca2 cb2 ck2 ta2 tb2
  refine (lok_spec o l h _ x.b _ tb3 (by omega) _ hb).mono ?_; rintro e w4 ⟨rfl, f4⟩
  have b4 := b3.trans (f4.mono (by omega))
  have z4 := f4.size
  have ci4 := cell_keep f4 ci3
  have ca4 := cell_keep f4 ca3
  have cb4 := cell_keep f4 cb3
  have ck4 := cell_keep f4 ck3
  have ta4 := ta3.keep f4 (by omega)
  have tb4 := tb3.keep f4 (by omega)
  clear ci3 ca3 cb3 ck3 ta3 tb3
  have lci4 : w.heap.size < w4.heap.size := World.block_lt_of_cell? _ _ ci4
  go_wp2_with fail
  refine name_call fun w5 hw5 => ?_
  have b5 : Below w.heap.size w w5 := by rw [hw5]; (repeat (with_reducible first | exact bR _ _ | assumption | refine bD ?_ | refine bN ?_ _ | refine bA ?_ _ | refine bS ?_ _))
  have z5 : w4.heap.size + 0 ≤ w5.heap.size := by rw [hw5]; simp
  have e5 : Below w4.heap.size w4 w5 := by rw [hw5]; (repeat (with_reducible first | exact bR _ _ | assumption | refine bD ?_ | refine bN ?_ _ | refine bA ?_ _ | refine bS ?_ _))
  have ci5 := cell_keep e5 ci4
  have ca5 := cell_keep e5 ca4
  have cb5 := cell_keep e5 cb4
  have ck5 := cell_keep e5 ck4
  have ta5 := ta4.keep e5 (by omega)
  have tb5 := tb4.keep e5 (by omega)
  clear hw5 lci4 ci4 ca4 cb4 ck4 ta4 tb4
  refine (l2w_any o l h _ x.a n _ ta5 (by omega) n0 n1 ha _ ga).mono ?_; rintro e w6 ⟨rfl, f6⟩
  have b6 := b5.trans (f6.mono (by omega))
  have z6 := f6.size
  have ci6 := cell_keep f6 ci5
  have ca6 := cell_keep f6 ca5
  have cb6 := cell_keep f6 cb5
  have ck6 := cell_keep f6 ck5
  have ta6 := ta5.keep f6 (by omega)
  have tb6 := tb5.keep f6 (by omega)
  clear ci5 ca5 cb5 ck5 ta5 tb5
  go_wp2_with fail
  go_ret
  exact ⟨ret_bool HR.out.symm, b6⟩
 cases gb : linW n x.b
 ·have HR : Hid (hintW n x = false) := Lib.hid (by simp [hintW, gb])
  clear kf
  go_enter Tryz.func58, Tryz.ntmps58
  go_wp2_with fail
  refine name_call fun w1 hw1 => ?_
  have b1 : Below w.heap.size w w1 := by rw [hw1]; (repeat (with_reducible first | exact bR _ _ | assumption | refine bD ?_ | refine bN ?_ _ | refine bA ?_ _ | refine bS ?_ _))
  have z1 : w.heap.size + 1 ≤ w1.heap.size := by rw [hw1]; simp
  have e1 : Below w.heap.size w w1 := by rw [hw1]; (repeat (with_reducible first | exact bR _ _ | assumption | refine bD ?_ | refine bN ?_ _ | refine bA ?_ _ | refine bS ?_ _))
  have ci1 : w1.cell? ⟨w.heap.size, 0, none⟩ = some (.int .i64 x.kind) := by rw [hw1]; first | (simp; done) | go_simp
  have ca1 : w1.cell? ⟨w.heap.size, 1, none⟩ = some (.slice aa x.a.length ka) := by rw [hw1]; first | (simp; done) | go_simp
  have cb1 : w1.cell? ⟨w.heap.size, 2, none⟩ = some (.slice ab x.b.length kb) := by rw [hw1]; first | (simp; done) | go_simp
  have ck1 : w1.cell? ⟨w.heap.size, 3, none⟩ = some (.int .i64 x.k) := by rw [hw1]; first | (simp; done) | go_simp
  have ta1 := ta.keep e1 (by omega)
  have tb1 := tb.keep e1 (by omega)
  clear hw1
  refine (lok_spec o l h _ x.a _ ta1 (by omega) _ ha).mono ?_; rintro e w2 ⟨rfl, f2⟩
  have b2 := b1.trans (f2.mono (by omega))
  have z2 := f2.size
  have ci2 := cell_keep f2 ci1
  have ca2 := cell_keep f2 ca1
  have cb2 := cell_keep f2 cb1
  have ck2 := cell_keep f2 ck1
  have ta2 := ta1.keep f2 (by omega)
  have tb2 := tb1.keep f2 (by omega)
  clear ci1 ca1 cb1 ck1 ta1 tb1
  have lci2 : w.heap.size < w2.heap.size := World.block_lt_of_cell? _ _ ci2
  go_wp2_with fail
  refine name_call fun w3 hw3 => ?_
  have b3 : Below w.heap.size w w3 := by rw [hw3]; (repeat (with_reducible first | exact bR _ _ | assumption | refine bD ?_ | refine bN ?_ _ | refine bA ?_ _ | refine bS ?_ _))
  have z3 : w2.heap.size + 0 ≤ w3.heap.size := by rw [hw3]; simp
  have e3 : Below w2.heap.size w2 w3 := by rw [hw3]; (repeat (with_reducible first | exact bR _ _ | assumption | refine bD ?_ | refine bN ?_ _ | refine bA ?_ _ | refine bS ?_ _))
  have ci3 := cell_keep e3 ci2
  have ca3 := cell_keep e3 ca2
  have cb3 := cell_keep e3 cb2
  have ck3 := cell_keep e3 ck2
  have ta3 := ta2.keep e3 (by omega)
  have tb3 := tb2.keep e3 (by omega)
  clear hw3 lci2 ci2 ca2 cb2 ck2 ta2 tb2
  refine (lok_spec o l h _ x.b _ tb3 (by omega) _ hb).mono ?_; rintro e w4 ⟨rfl, f4⟩
  have b4 := b3.trans (f4.mono (by omega))
  have z4 := f4.size
  have ci4 := cell_keep f4 ci3
  have ca4 := cell_keep f4 ca3
  have cb4 := cell_keep f4 cb3
  have ck4 := cell_keep f4 ck3
  have ta4 := ta3.keep f4 (by omega)
  have tb4 := tb3.keep f4 (by omega)
  clear ci3 ca3 cb3 ck3 ta3 tb3
  have lci4 : w.heap.size < w4.heap.size := World.block_lt_of_cell? _ _ ci4
  go_wp2_with fail
  refine name_call fun w5 hw5 => ?_
  have b5 : Below w.heap.size w w5 := by rw [hw5]; (repeat (with_reducible first | exact bR _ _ | assumption | refine bD ?_ | refine bN ?_ _ | refine bA ?_ _ | refine bS ?_ _))
  have z5 : w4.heap.size + 0 ≤ w5.heap.size := by rw [hw5]; simp
  have e5 : Below w4.heap.size w4 w5 := by rw [hw5]; (repeat (with_reducible first | exact bR _ _ | assumption | refine bD ?_ | refine bN ?_ _ | refine bA ?_ _ | refine bS ?_ _))
  have ci5 := cell_keep e5 ci4
  have ca5 := cell_keep e5 ca4
  have cb5 := cell_keep e5 cb4
  have ck5 := cell_keep e5 ck4
  have ta5 := ta4.keep e5 (by omega)
  have tb5 := tb4.keep e5 (by omega)
  clear hw5 lci4 ci4 ca4 cb4 ck4 ta4 tb4
  refine (l2w_any o l h _ x.a n _ ta5 (by omega) n0 n1 ha _ ga).mono ?_; rintro e w6 ⟨rfl, f6⟩
  have b6 := b5.trans (f6.mono (by omega))
  have z6 := f6.size
  have ci6 := cell_keep f6 ci5
  have ca6 := cell_keep f6 ca5
  have cb6 := cell_keep f6 cb5
  have ck6 := cell_keep f6 ck5
  have ta6 := ta5.keep f6 (by omega)
  have tb6 := tb5.keep f6 (by omega)
  clear ci5 ca5 cb5 ck5 ta5 tb5
  have lci6 : w.heap.size < w6.heap.size := World.block_lt_of_cell? _ _ ci6
  go_wp2_with fail
  refine name_call fun w7 hw7 => ?_
  have b7 : Below w.heap.size w w7 := by rw [hw7]; (repeat (with_reducible first | exact bR _ _ | assumption | refine bD ?_ | refine bN ?_ _ | refine bA ?_ _ | refine bS ?_ _))
  have z7 : w6.heap.size + 0 ≤ w7.heap.size := by rw [hw7]; simp
  have e7 : Below w6.heap.size w6 w7 := by rw [hw7]; (repeat (with_reducible first | exact bR _ _ | assumption | refine bD ?_ | refine bN ?_ _ | refine bA ?_ _ | refine bS ?_ _))
  have ci7 := cell_keep e7 ci6
  have ca7 := cell_keep e7 ca6
  have cb7 := cell_keep e7 cb6
  have ck7 := cell_keep e7 ck6
  have ta7 := ta6.keep e7 (by omega)
  have tb7 := tb6.keep e7 (by omega)
  clear hw7 lci6 ci6 ca6 cb6 ck6 ta6 tb6
  refine (l2w_any o l h _ x.b n _ tb7 (by omega) n0 n1 hb _ gb).mono ?_; rintro e w8 ⟨rfl, f8⟩
  have b8 := b7.trans (f8.mono (by omega))
  have z8 := f8.size
  have ci8 := cell_keep f8 ci7
  have ca8 := cell_keep f8 ca7
  have cb8 := cell_keep f8 cb7
  have ck8 := cell_keep f8 ck7
  have ta8 := ta7.keep f8 (by omega)
  have tb8 := tb7.keep f8 (by omega)
  clear ci7 ca7 cb7 ck7 ta7 tb7
  go_wp2_with fail
  go_ret
  exact ⟨ret_bool HR.out.symm, b8⟩
 have HK : Hid (hintW n x = kindOk x) := Lib.hid (by simp [hintW, ga, gb])
 by_cases q0 : x.kind = 0
 ·by_cases z0 : x.k = 0
  ·have P0 : (x.kind == 0) = true := by simp [q0]
   have P1 : (x.kind != 0) = false := by simp [q0]
   have P2 : (x.kind == 1) = false := by simp [q0]
   have K0 : (x.k == 0) = true := by simp [z0]
   have HR : Hid (hintW n x = true) := Lib.hid (by rw [HK.out]; unfold kindOk; rw [decide_eq_true_iff]; omega)
   clear q0 u0 u1 z0
   clear kf
   go_enter Tryz.func58, Tryz.ntmps58
   go_wp2_with fail
   refine name_call fun w1 hw1 => ?_
   have b1 : Below w.heap.size w w1 := by rw [hw1]; (repeat (with_reducible first | exact bR _ _ | assumption | refine bD ?_ | refine bN ?_ _ | refine bA ?_ _ | refine bS ?_ _))
   have z1 : w.heap.size + 1 ≤ w1.heap.size := by rw [hw1]; simp
   have e1 : Below w.heap.size w w1 := by rw [hw1]; (repeat (with_reducible first | exact bR _ _ | assumption | refine bD ?_ | refine bN ?_ _ | refine bA ?_ _ | refine bS ?_ _))
   have ci1 : w1.cell? ⟨w.heap.size, 0, none⟩ = some (.int .i64 x.kind) := by rw [hw1]; first | (simp; done) | go_simp
   have ca1 : w1.cell? ⟨w.heap.size, 1, none⟩ = some (.slice aa x.a.length ka) := by rw [hw1]; first | (simp; done) | go_simp
   have cb1 : w1.cell? ⟨w.heap.size, 2, none⟩ = some (.slice ab x.b.length kb) := by rw [hw1]; first | (simp; done) | go_simp
   have ck1 : w1.cell? ⟨w.heap.size, 3, none⟩ = some (.int .i64 x.k) := by rw [hw1]; first | (simp; done) | go_simp
   have ta1 := ta.keep e1 (by omega)
   have tb1 := tb.keep e1 (by omega)
   clear hw1
   refine (lok_spec o l h _ x.a _ ta1 (by omega) _ ha).mono ?_; rintro e w2 ⟨rfl, f2⟩
   have b2 := b1.trans (f2.mono (by omega))
   have z2 := f2.size
   have ci2 := cell_keep f2 ci1
   have ca2 := cell_keep f2 ca1
   have cb2 := cell_keep f2 cb1
   have ck2 := cell_keep f2 ck1
   have ta2 := ta1.keep f2 (by omega)
   have tb2 := tb1.keep f2 (by omega)
   clear ci1 ca1 cb1 ck1 ta1 tb1
   have lci2 : w.heap.size < w2.heap.size := World.block_lt_of_cell? _ _ ci2
   go_wp2_with fail
   refine name_call fun w3 hw3 => ?_
   have b3 : Below w.heap.size w w3 := by rw [hw3]; (repeat (with_reducible first | exact bR _ _ | assumption | refine bD ?_ | refine bN ?_ _ | refine bA ?_ _ | refine bS ?_ _))
   have z3 : w2.heap.size + 0 ≤ w3.heap.size := by rw [hw3]; simp
   have e3 : Below w2.heap.size w2 w3 := by rw [hw3]; (repeat (with_reducible first | exact bR _ _ | assumption | refine bD ?_ | refine bN ?_ _ | refine bA ?_ _ | refine bS ?_ _))
   have ci3 := cell_keep e3 ci2
   have ca3 := cell_keep e3 ca2
   have cb3 := cell_keep e3 cb2
   have ck3 := cell_keep e3 ck2
   have ta3 := ta2.keep e3 (by omega)
   have tb3 := tb2.keep e3 (by omega)
   clear hw3 lci2 ci2 ca2 cb2 ck2 ta2 tb2
   refine (lok_spec o l h _ x.b _ tb3 (by omega) _ hb).mono ?_; rintro e w4 ⟨rfl, f4⟩
   have b4 := b3.trans (f4.mono (by omega))
   have z4 := f4.size
   have ci4 := cell_keep f4 ci3
   have ca4 := cell_keep f4 ca3
   have cb4 := cell_keep f4 cb3
   have ck4 := cell_keep f4 ck3
   have ta4 := ta3.keep f4 (by omega)
   have tb4 := tb3.keep f4 (by omega)
   clear ci3 ca3 cb3 ck3 ta3 tb3
   have lci4 : w.heap.size < w4.heap.size := World.block_lt_of_cell? _ _ ci4
   go_wp2_with fail
   refine name_call fun w5 hw5 => ?_
   have b5 : Below w.heap.size w w5 := by rw [hw5]; (repeat (with_reducible first | exact bR _ _ | assumption | refine bD ?_ | refine bN ?_ _ | refine bA ?_ _ | refine bS ?_ _))
   have z5 : w4.heap.size + 0 ≤ w5.heap.size := by rw [hw5]; simp
   have e5 : Below w4.heap.size w4 w5 := by rw [hw5]; (repeat (with_reducible first | exact bR _ _ | assumption | refine bD ?_ | refine bN ?_ _ | refine bA ?_ _ | refine bS ?_ _))
   have ci5 := cell_keep e5 ci4
   have ca5 := cell_keep e5 ca4
   have cb5 := cell_keep e5 cb4
   have ck5 := cell_keep e5 ck4
   have ta5 := ta4.keep e5 (by omega)
   have tb5 := tb4.keep e5 (by omega)
   clear hw5 lci4 ci4 ca4 cb4 ck4 ta4 tb4
   refine (l2w_any o l h _ x.a n _ ta5 (by omega) n0 n1 ha _ ga).mono ?_; rintro e w6 ⟨rfl, f6⟩
   have b6 := b5.trans (f6.mono (by omega))
   have z6 := f6.size
   have ci6 := cell_keep f6 ci5
   have ca6 := cell_keep f6 ca5
   have cb6 := cell_keep f6 cb5
   have ck6 := cell_keep f6 ck5
   have ta6 := ta5.keep f6 (by omega)
   have tb6 := tb5.keep f6 (by omega)
   clear ci5 ca5 cb5 ck5 ta5 tb5
   have lci6 : w.heap.size < w6.heap.size := World.block_lt_of_cell? _ _ ci6
   go_wp2_with fail
   refine name_call fun w7 hw7 => ?_
   have b7 : Below w.heap.size w w7 := by rw [hw7]; (repeat (with_reducible first | exact bR _ _ | assumption | refine bD ?_ | refine bN ?_ _ | refine bA ?_ _ | refine bS ?_ _))
   have z7 : w6.heap.size + 0 ≤ w7.heap.size := by rw [hw7]; simp
   have e7 : Below w6.heap.size w6 w7 := by rw [hw7]; (repeat (with_reducible first | exact bR _ _ | assumption | refine bD ?_ | refine bN ?_ _ | refine bA ?_ _ | refine bS ?_ _))
   have ci7 := cell_keep e7 ci6
   have ca7 := cell_keep e7 ca6
   have cb7 := cell_keep e7 cb6
   have ck7 := cell_keep e7 ck6
   have ta7 := ta6.keep e7 (by omega)
   have tb7 := tb6.keep e7 (by omega)
   clear hw7 lci6 ci6 ca6 cb6 ck6 ta6 tb6
   refine (l2w_any o l h _ x.b n _ tb7 (by omega) n0 n1 hb _ gb).mono ?_; rintro e w8 ⟨rfl, f8⟩
   have b8 := b7.trans (f8.mono (by omega))
   have z8 := f8.size
   have ci8 := cell_keep f8 ci7
   have ca8 := cell_keep f8 ca7
   have cb8 := cell_keep f8 cb7
   have ck8 := cell_keep f8 ck7
   have ta8 := ta7.keep f8 (by omega)
   have tb8 := tb7.keep f8 (by omega)
   clear ci7 ca7 cb7 ck7 ta7 tb7
   go_wp2_with fail
   go_ret
   first | exact ⟨ret_bool HR.out.symm, b8⟩ | exact ⟨ret_bool (by rw [HR.out]; simp; omega), b8⟩
  ·have P0 : (x.kind == 0) = true := by simp [q0]
   have P1 : (x.kind != 0) = false := by simp [q0]
   have P2 : (x.kind == 1) = false := by simp [q0]
   have K0 : (x.k == 0) = false := by simp [z0]
   have HR : Hid (hintW n x = false) := Lib.hid (by rw [HK.out]; unfold kindOk; rw [decide_eq_false_iff_not]; omega)
   clear q0 u0 u1 z0
   clear kf
   go_enter Tryz.func58, Tryz.ntmps58
   go_wp2_with fail
   refine name_call fun w1 hw1 => ?_
   have b1 : Below w.heap.size w w1 := by rw [hw1]; (repeat (with_reducible first | exact bR _ _ | assumption | refine bD ?_ | refine bN ?_ _ | refine bA ?_ _ | refine bS ?_ _))
   have z1 : w.heap.size + 1 ≤ w1.heap.size := by rw [hw1]; simp
   have e1 : Below w.heap.size w w1 := by rw [hw1]; (repeat (with_reducible first | exact bR _ _ | assumption | refine bD ?_ | refine bN ?_ _ | refine bA ?_ _ | refine bS ?_ _))
   have ci1 : w1.cell? ⟨w.heap.size, 0, none⟩ = some (.int .i64 x.kind) := by rw [hw1]; first | (simp; done) | go_simp
   have ca1 : w1.cell? ⟨w.heap.size, 1, none⟩ = some (.slice aa x.a.length ka) := by rw [hw1]; first | (simp; done) | go_simp
   have cb1 : w1.cell? ⟨w.heap.size, 2, none⟩ = some (.slice ab x.b.length kb) := by rw [hw1]; first | (simp; done) | go_simp
   have ck1 : w1.cell? ⟨w.heap.size, 3, none⟩ = some (.int .i64 x.k) := by rw [hw1]; first | (simp; done) | go_simp
   have ta1 := ta.keep e1 (by omega)
   have tb1 := tb.keep e1 (by omega)
   clear hw1
   refine (lok_spec o l h _ x.a _ ta1 (by omega) _ ha).mono ?_; rintro e w2 ⟨rfl, f2⟩
   have b2 := b1.trans (f2.mono (by omega))
   have z2 := f2.size
   have ci2 := cell_keep f2 ci1
   have ca2 := cell_keep f2 ca1
   have cb2 := cell_keep f2 cb1
   have ck2 := cell_keep f2 ck1
   have ta2 := ta1.keep f2 (by omega)
   have tb2 := tb1.keep f2 (by omega)
   clear ci1 ca1 cb1 ck1 ta1 tb1
   have lci2 : w.heap.size < w2.heap.size := World.block_lt_of_cell? _ _ ci2
   go_wp2_with fail
   refine name_call fun w3 hw3 => ?_
   have b3 : Below w.heap.size w w3 := by rw [hw3]; (repeat (with_reducible first | exact bR _ _ | assumption | refine bD ?_ | refine bN ?_ _ | refine bA ?_ _ | refine bS ?_ _))
   have z3 : w2.heap.size + 0 ≤ w3.heap.size := by rw [hw3]; simp
   have e3 : Below w2.heap.size w2 w3 := by rw [hw3]; (repeat (with_reducible first | exact bR _ _ | assumption | refine bD ?_ | refine bN ?_ _ | refine bA ?_ _ | refine bS ?_ _))
   have ci3 := cell_keep e3 ci2
   have ca3 := cell_keep e3 ca2
   have cb3 := cell_keep e3 cb2
   have ck3 := cell_keep e3 ck2
   have ta3 := ta2.keep e3 (by omega)
   have tb3 := tb2.keep e3 (by omega)
   clear hw3 lci2 ci2 ca2 cb2 ck2 ta2 tb2
   refine (lok_spec o l h _ x.b _ tb3 (by omega) _ hb).mono ?_; rintro e w4 ⟨rfl, f4⟩
   have b4 := b3.trans (f4.mono (by omega))
   have z4 := f4.size
   have ci4 := cell_keep f4 ci3
   have ca4 := cell_keep f4 ca3
   have cb4 := cell_keep f4 cb3
   have ck4 := cell_keep f4 ck3
   have ta4 := ta3.keep f4 (by omega)
   have tb4 := tb3.keep f4 (by omega)
   clear ci3 ca3 cb3 ck3 ta3 tb3
   have lci4 : w.heap.size < w4.heap.size := World.block_lt_of_cell? _ _ ci4
   go_wp2_with fail
   refine name_call fun w5 hw5 => ?_
   have b5 : Below w.heap.size w w5 := by rw [hw5]; (repeat (with_reducible first | exact bR _ _ | assumption | refine bD ?_ | refine bN ?_ _ | refine bA ?_ _ | refine bS ?_ _))
   have z5 : w4.heap.size + 0 ≤ w5.heap.size := by rw [hw5]; simp
   have e5 : Below w4.heap.size w4 w5 := by rw [hw5]; (repeat (with_reducible first | exact bR _ _ | assumption | refine bD ?_ | refine bN ?_ _ | refine bA ?_ _ | refine bS ?_ _))
   have ci5 := cell_keep e5 ci4
   have ca5 := cell_keep e5 ca4
   have cb5 := cell_keep e5 cb4
   have ck5 := cell_keep e5 ck4
   have ta5 := ta4.keep e5 (by omega)
   have tb5 := tb4.keep e5 (by omega)
   clear hw5 lci4 ci4 ca4 cb4 ck4 ta4 tb4
   refine (l2w_any o l h _ x.a n _ ta5 (by omega) n0 n1 ha _ ga).mono ?_; rintro e w6 ⟨rfl, f6⟩
   have b6 := b5.trans (f6.mono (by omega))
   have z6 := f6.size
   have ci6 := cell_keep f6 ci5
   have ca6 := cell_keep f6 ca5
   have cb6 := cell_keep f6 cb5
   have ck6 := cell_keep f6 ck5
   have ta6 := ta5.keep f6 (by omega)
   have tb6 := tb5.keep f6 (by omega)
   clear ci5 ca5 cb5 ck5 ta5 tb5
   have lci6 : w.heap.size < w6.heap.size := World.block_lt_of_cell? _ _ ci6
   go_wp2_with fail
   refine name_call fun w7 hw7 => ?_
   have b7 : Below w.heap.size w w7 := by rw [hw7]; (repeat (with_reducible first | exact bR _ _ | assumption | refine bD ?_ | refine bN ?_ _ | refine bA ?_ _ | refine bS ?_ _))
   have z7 : w6.heap.size + 0 ≤ w7.heap.size := by rw [hw7]; simp
   have e7 : Below w6.heap.size w6 w7 := by rw [hw7]; (repeat (with_reducible first | exact bR _ _ | assumption | refine bD ?_ | refine bN ?_ _ | refine bA ?_ _ | refine bS ?_ _))
   have ci7 := cell_keep e7 ci6
   have ca7 := cell_keep e7 ca6
   have cb7 := cell_keep e7 cb6
   have ck7 := cell_keep e7 ck6
   have ta7 := ta6.keep e7 (by omega)
   have tb7 := tb6.keep e7 (by omega)
   clear hw7 lci6 ci6 ca6 cb6 ck6 ta6 tb6
   refine (l2w_any o l h _ x.b n _ tb7 (by omega) n0 n1 hb _ gb).mono ?_; rintro e w8 ⟨rfl, f8⟩
   have b8 := b7.trans (f8.mono (by omega))
   have z8 := f8.size
   have ci8 := cell_keep f8 ci7
   have ca8 := cell_keep f8 ca7
   have cb8 := cell_keep f8 cb7
   have ck8 := cell_keep f8 ck7
   have ta8 := ta7.keep f8 (by omega)
   have tb8 := tb7.keep f8 (by omega)
   clear ci7 ca7 cb7 ck7 ta7 tb7
   go_wp2_with fail
   go_ret
   first | exact ⟨ret_bool HR.out.symm, b8⟩ | exact ⟨ret_bool (by rw [HR.out]; simp; omega), b8⟩
 by_cases q3 : x.kind = 3
 ·by_cases z0 : x.k = 0
  ·have P0 : (x.kind == 0) = false := by simp [q3]
   have P1 : (x.kind != 0) = true := by simp [q3]
   have P2 : (x.kind == 3) = true := by simp [q3]
   have P3 : (x.kind != 3) = false := by simp [q3]
   have P4 : (x.kind == 1) = false := by simp [q3]
   have K0 : (x.k == 0) = true := by simp [z0]
   have HR : Hid (hintW n x = true) := Lib.hid (by rw [HK.out]; unfold kindOk; rw [decide_eq_true_iff]; omega)
   clear q3 u0 u1 z0
   clear kf
   go_enter Tryz.func58, Tryz.ntmps58
   go_wp2_with fail
   refine name_call fun w1 hw1 => ?_
   have b1 : Below w.heap.size w w1 := by rw [hw1]; (repeat (with_reducible first | exact bR _ _ | assumption | refine bD ?_ | refine bN ?_ _ | refine bA ?_ _ | refine bS ?_ _))
   have z1 : w.heap.size + 1 ≤ w1.heap.size := by rw [hw1]; simp
   have e1 : Below w.heap.size w w1 := by rw [hw1]; (repeat (with_reducible first | exact bR _ _ | assumption | refine bD ?_ | refine bN ?_ _ | refine bA ?_ _ | refine bS ?_ _))
   have ci1 : w1.cell? ⟨w.heap.size, 0, none⟩ = some (.int .i64 x.kind) := by rw [hw1]; first | (simp; done) | go_simp
   have ca1 : w1.cell? ⟨w.heap.size, 1, none⟩ = some (.slice aa x.a.length ka) := by rw [hw1]; first | (simp; done) | go_simp
   have cb1 : w1.cell? ⟨w.heap.size, 2, none⟩ = some (.slice ab x.b.length kb) := by rw [hw1]; first | (simp; done) | go_simp
   have ck1 : w1.cell? ⟨w.heap.size, 3, none⟩ = some (.int .i64 x.k) := by rw [hw1]; first | (simp; done) | go_simp
   have ta1 := ta.keep e1 (by omega)
   have tb1 := tb.keep e1 (by omega)
   clear hw1
   refine (lok_spec o l h _ x.a _ ta1 (by omega) _ ha).mono ?_; rintro e w2 ⟨rfl, f2⟩
   have b2 := b1.trans (f2.mono (by omega))
   have z2 := f2.size
   have ci2 := cell_keep f2 ci1
   have ca2 := cell_keep f2 ca1
   have cb2 := cell_keep f2 cb1
   have ck2 := cell_keep f2 ck1
   have ta2 := ta1.keep f2 (by omega)
   have tb2 := tb1.keep f2 (by omega)
   clear ci1 ca1 cb1 ck1 ta1 tb1
   have lci2 : w.heap.size < w2.heap.size := World.block_lt_of_cell? _ _ ci2
   go_wp2_with fail
   refine name_call fun w3 hw3 => ?_
   have b3 : Below w.heap.size w w3 := by rw [hw3]; (repeat (with_reducible first | exact bR _ _ | assumption | refine bD ?_ | refine bN ?_ _ | refine bA ?_ _ | refine bS ?_ _))
   have z3 : w2.heap.size + 0 ≤ w3.heap.size := by rw [hw3]; simp
   have e3 : Below w2.heap.size w2 w3 := by rw [hw3]; (repeat (with_reducible first | exact bR _ _ | assumption | refine bD ?_ | refine bN ?_ _ | refine bA ?_ _ | refine bS ?_ _))
   have ci3 := cell_keep e3 ci2
   have ca3 := cell_keep e3 ca2
   have cb3 := cell_keep e3 cb2
   have ck3 := cell_keep e3 ck2
   have ta3 := ta2.keep e3 (by omega)
   have tb3 := tb2.keep e3 (by omega)
   clear hw3 lci2 ci2 ca2 cb2 ck2 ta2 tb2
   refine (lok_spec o l h _ x.b _ tb3 (by omega) _ hb).mono ?_; rintro e w4 ⟨rfl, f4⟩
   have b4 := b3.trans (f4.mono (by omega))
   have z4 := f4.size
   have ci4 := cell_keep f4 ci3
   have ca4 := cell_keep f4 ca3
   have cb4 := cell_keep f4 cb3
   have ck4 := cell_keep f4 ck3
   have ta4 := ta3.keep f4 (by omega)
   have tb4 := tb3.keep f4 (by omega)
   clear ci3 ca3 cb3 ck3 ta3 tb3
   have lci4 : w.heap.size < w4.heap.size := World.block_lt_of_cell? _ _ ci4
   go_wp2_with fail
   refine name_call fun w5 hw5 => ?_
   have b5 : Below w.heap.size w w5 := by rw [hw5]; (repeat (with_reducible first | exact bR _ _ | assumption | refine bD ?_ | refine bN ?_ _ | refine bA ?_ _ | refine bS ?_ _))
   have z5 : w4.heap.size + 0 ≤ w5.heap.size := by rw [hw5]; simp
   have e5 : Below w4.heap.size w4 w5 := by rw [hw5]; (repeat (with_reducible first | exact bR _ _ | assumption | refine bD ?_ | refine bN ?_ _ | refine bA ?_ _ | refine bS ?_ _))
   have ci5 := cell_keep e5 ci4
   have ca5 := cell_keep e5 ca4
   have cb5 := cell_keep e5 cb4
   have ck5 := cell_keep e5 ck4
   have ta5 := ta4.keep e5 (by omega)
   have tb5 := tb4.keep e5 (by omega)
   clear hw5 lci4 ci4 ca4 cb4 ck4 ta4 tb4
   refine (l2w_any o l h _ x.a n _ ta5 (by omega) n0 n1 ha _ ga).mono ?_; rintro e w6 ⟨rfl, f6⟩
   have b6 := b5.trans (f6.mono (by omega))
   have z6 := f6.size
   have ci6 := cell_keep f6 ci5
   have ca6 := cell_keep f6 ca5
   have cb6 := cell_keep f6 cb5
   have ck6 := cell_keep f6 ck5
   have ta6 := ta5.keep f6 (by omega)
   have tb6 := tb5.keep f6 (by omega)
   clear ci5 ca5 cb5 ck5 ta5 tb5
   have lci6 : w.heap.size < w6.heap.size := World.block_lt_of_cell? _ _ ci6
   go_wp2_with fail
   refine name_call fun w7 hw7 => ?_
   have b7 : Below w.heap.size w w7 := by rw [hw7]; (repeat (with_reducible first | exact bR _ _ | assumption | refine bD ?_ | refine bN ?_ _ | refine bA ?_ _ | refine bS ?_ _))
   have z7 : w6.heap.size + 0 ≤ w7.heap.size := by rw [hw7]; simp
   have e7 : Below w6.heap.size w6 w7 := by rw [hw7]; (repeat (with_reducible first | exact bR _ _ | assumption | refine bD ?_ | refine bN ?_ _ | refine bA ?_ _ | refine bS ?_ _))
   have ci7 := cell_keep e7 ci6
   have ca7 := cell_keep e7 ca6
   have cb7 := cell_keep e7 cb6
   have ck7 := cell_keep e7 ck6
   have ta7 := ta6.keep e7 (by omega)
   have tb7 := tb6.keep e7 (by omega)
   clear hw7 lci6 ci6 ca6 cb6 ck6 ta6 tb6
   refine (l2w_any o l h _ x.b n _ tb7 (by omega) n0 n1 hb _ gb).mono ?_; rintro e w8 ⟨rfl, f8⟩
   have b8 := b7.trans (f8.mono (by omega))
   have z8 := f8.size
   have ci8 := cell_keep f8 ci7
   have ca8 := cell_keep f8 ca7
   have cb8 := cell_keep f8 cb7
   have ck8 := cell_keep f8 ck7
   have ta8 := ta7.keep f8 (by omega)
   have tb8 := tb7.keep f8 (by omega)
   clear ci7 ca7 cb7 ck7 ta7 tb7
   go_wp2_with fail
   go_ret
   first | exact ⟨ret_bool HR.out.symm, b8⟩ | exact ⟨ret_bool (by rw [HR.out]; simp; omega), b8⟩
  ·have P0 : (x.kind == 0) = false := by simp [q3]
   have P1 : (x.kind != 0) = true := by simp [q3]
   have P2 : (x.kind == 3) = true := by simp [q3]
   have P3 : (x.kind != 3) = false := by simp [q3]
   have P4 : (x.kind == 1) = false := by simp [q3]
   have K0 : (x.k == 0) = false := by simp [z0]
   have HR : Hid (hintW n x = false) := Lib.hid (by rw [HK.out]; unfold kindOk; rw [decide_eq_false_iff_not]; omega)
   clear q3 u0 u1 z0
   clear kf
   go_enter Tryz.func58, Tryz.ntmps58
   go_wp2_with fail
   refine name_call fun w1 hw1 => ?_
   have b1 : Below w.heap.size w w1 := by rw [hw1]; (repeat (with_reducible first | exact bR _ _ | assumption | refine bD ?_ | refine bN ?_ _ | refine bA ?_ _ | refine bS ?_ _))
   have z1 : w.heap.size + 1 ≤ w1.heap.size := by rw [hw1]; simp
   have e1 : Below w.heap.size w w1 := by rw [hw1]; (repeat (with_reducible first | exact bR _ _ | assumption | refine bD ?_ | refine bN ?_ _ | refine bA ?_ _ | refine bS ?_ _))
   have ci1 : w1.cell? ⟨w.heap.size, 0, none⟩ = some (.int .i64 x.kind) := by rw [hw1]; first | (simp; done) | go_simp
   have ca1 : w1.cell? ⟨w.heap.size, 1, none⟩ = some (.slice aa x.a.length ka) := by rw [hw1]; first | (simp; done) | go_simp
   have cb1 : w1.cell? ⟨w.heap.size, 2, none⟩ = some (.slice ab x.b.length kb) := by rw [hw1]; first | (simp; done) | go_simp
   have ck1 : w1.cell? ⟨w.heap.size, 3, none⟩ = some (.int .i64 x.k) := by rw [hw1]; first | (simp; done) | go_simp
   have ta1 := ta.keep e1 (by omega)
   have tb1 := tb.keep e1 (by omega)
   clear hw1
   refine (lok_spec o l h _ x.a _ ta1 (by omega) _ ha).mono ?_; rintro e w2 ⟨rfl, f2⟩
   have b2 := b1.trans (f2.mono (by omega))
   have z2 := f2.size
   have ci2 := cell_keep f2 ci1
   have ca2 := cell_keep f2 ca1
   have cb2 := cell_keep f2 cb1
   have ck2 := cell_keep f2 ck1
   have ta2 := ta1.keep f2 (by omega)
   have tb2 := tb1.keep f2 (by omega)
   clear ci1 ca1 cb1 ck1 ta1 tb1
   have lci2 : w.heap.size < w2.heap.size := World.block_lt_of_cell? _ _ ci2
   go_wp2_with fail
   refine name_call fun w3 hw3 => ?_
   have b3 : Below w.heap.size w w3 := by rw [hw3]; (repeat (with_reducible first | exact bR _ _ | assumption | refine bD ?_ | refine bN ?_ _ | refine bA ?_ _ | refine bS ?_ _))
   have z3 : w2.heap.size + 0 ≤ w3.heap.size := by rw [hw3]; simp
   have e3 : Below w2.heap.size w2 w3 := by rw [hw3]; (repeat (with_reducible first | exact bR _ _ | assumption | refine bD ?_ | refine bN ?_ _ | refine bA ?_ _ | refine bS ?_ _))
   have ci3 := cell_keep e3 ci2
   have ca3 := cell_keep e3 ca2
   have cb3 := cell_keep e3 cb2
   have ck3 := cell_keep e3 ck2
   have ta3 := ta2.keep e3 (by omega)
   have tb3 := tb2.keep e3 (by omega)
   clear hw3 lci2 ci2 ca2 cb2 ck2 ta2 tb2
   refine (lok_spec o l h _ x.b _ tb3 (by omega) _ hb).mono ?_; rintro e w4 ⟨rfl, f4⟩
   have b4 := b3.trans (f4.mono (by omega))
   have z4 := f4.size
   have ci4 := cell_keep f4 ci3
   have ca4 := cell_keep f4 ca3
   have cb4 := cell_keep f4 cb3
   have ck4 := cell_keep f4 ck3
   have ta4 := ta3.keep f4 (by omega)
   have tb4 := tb3.keep f4 (by omega)
   clear ci3 ca3 cb3 ck3 ta3 tb3
   have lci4 : w.heap.size < w4.heap.size := World.block_lt_of_cell? _ _ ci4
   go_wp2_with fail
   refine name_call fun w5 hw5 => ?_
   have b5 : Below w.heap.size w w5 := by rw [hw5]; (repeat (with_reducible first | exact bR _ _ | assumption | refine bD ?_ | refine bN ?_ _ | refine bA ?_ _ | refine bS ?_ _))
   have z5 : w4.heap.size + 0 ≤ w5.heap.size := by rw [hw5]; simp
   have e5 : Below w4.heap.size w4 w5 := by rw [hw5]; (repeat (with_reducible first | exact bR _ _ | assumption | refine bD ?_ | refine bN ?_ _ | refine bA ?_ _ | refine bS ?_ _))
   have ci5 := cell_keep e5 ci4
   have ca5 := cell_keep e5 ca4
   have cb5 := cell_keep e5 cb4
   have ck5 := cell_keep e5 ck4
   have ta5 := ta4.keep e5 (by omega)
   have tb5 := tb4.keep e5 (by omega)
   clear hw5 lci4 ci4 ca4 cb4 ck4 ta4 tb4
   refine (l2w_any o l h _ x.a n _ ta5 (by omega) n0 n1 ha _ ga).mono ?_; rintro e w6 ⟨rfl, f6⟩
   have b6 := b5.trans (f6.mono (by omega))
   have z6 := f6.size
   have ci6 := cell_keep f6 ci5
   have ca6 := cell_keep f6 ca5
   have cb6 := cell_keep f6 cb5
   have ck6 := cell_keep f6 ck5
   have ta6 := ta5.keep f6 (by omega)
   have tb6 := tb5.keep f6 (by omega)
   clear ci5 ca5 cb5 ck5 ta5 tb5
   have lci6 : w.heap.size < w6.heap.size := World.block_lt_of_cell? _ _ ci6
   go_wp2_with fail
   refine name_call fun w7 hw7 => ?_
   have b7 : Below w.heap.size w w7 := by rw [hw7]; (repeat (with_reducible first | exact bR _ _ | assumption | refine bD ?_ | refine bN ?_ _ | refine bA ?_ _ | refine bS ?_ _))
   have z7 : w6.heap.size + 0 ≤ w7.heap.size := by rw [hw7]; simp
   have e7 : Below w6.heap.size w6 w7 := by rw [hw7]; (repeat (with_reducible first | exact bR _ _ | assumption | refine bD ?_ | refine bN ?_ _ | refine bA ?_ _ | refine bS ?_ _))
   have ci7 := cell_keep e7 ci6
   have ca7 := cell_keep e7 ca6
   have cb7 := cell_keep e7 cb6
   have ck7 := cell_keep e7 ck6
   have ta7 := ta6.keep e7 (by omega)
   have tb7 := tb6.keep e7 (by omega)
   clear hw7 lci6 ci6 ca6 cb6 ck6 ta6 tb6
   refine (l2w_any o l h _ x.b n _ tb7 (by omega) n0 n1 hb _ gb).mono ?_; rintro e w8 ⟨rfl, f8⟩
   have b8 := b7.trans (f8.mono (by omega))
   have z8 := f8.size
   have ci8 := cell_keep f8 ci7
   have ca8 := cell_keep f8 ca7
   have cb8 := cell_keep f8 cb7
   have ck8 := cell_keep f8 ck7
   have ta8 := ta7.keep f8 (by omega)
   have tb8 := tb7.keep f8 (by omega)
   clear ci7 ca7 cb7 ck7 ta7 tb7
   go_wp2_with fail
   go_ret
   first | exact ⟨ret_bool HR.out.symm, b8⟩ | exact ⟨ret_bool (by rw [HR.out]; simp; omega), b8⟩
 by_cases q1 : x.kind = 1
 ·by_cases y0 : x.b.length = 0
  case' neg =>
   have P0 : (x.kind == 0) = false := by simp [q1]
   have P1 : (x.kind != 0) = true := by simp [q1]
   have P2 : (x.kind == 3) = false := by simp [q1]
   have P3 : (x.kind != 3) = true := by simp [q1]
   have P4 : (x.kind == 1) = true := by simp [q1]
   have B0 : 0 < x.b.length := by omega
   have HR : Hid (hintW n x = false) := Lib.hid (by rw [HK.out]; unfold kindOk; rw [decide_eq_false_iff_not]; omega)
   clear q1 u0 u1 y0
   clear kf
   go_enter Tryz.func58, Tryz.ntmps58
   go_wp2_with fail
   refine name_call fun w1 hw1 => ?_
   have b1 : Below w.heap.size w w1 := by rw [hw1]; (repeat (with_reducible first | exact bR _ _ | assumption | refine bD ?_ | refine bN ?_ _ | refine bA ?_ _ | refine bS ?_ _))
   have z1 : w.heap.size + 1 ≤ w1.heap.size := by rw [hw1]; simp
   have e1 : Below w.heap.size w w1 := by rw [hw1]; (repeat (with_reducible first | exact bR _ _ | assumption | refine bD ?_ | refine bN ?_ _ | refine bA ?_ _ | refine bS ?_ _))
   have ci1 : w1.cell? ⟨w.heap.size, 0, none⟩ = some (.int .i64 x.kind) := by rw [hw1]; first | (simp; done) | go_simp
   have ca1 : w1.cell? ⟨w.heap.size, 1, none⟩ = some (.slice aa x.a.length ka) := by rw [hw1]; first | (simp; done) | go_simp
   have cb1 : w1.cell? ⟨w.heap.size, 2, none⟩ = some (.slice ab x.b.length kb) := by rw [hw1]; first | (simp; done) | go_simp
   have ck1 : w1.cell? ⟨w.heap.size, 3, none⟩ = some (.int .i64 x.k) := by rw [hw1]; first | (simp; done) | go_simp
   have ta1 := ta.keep e1 (by omega)
   have tb1 := tb.keep e1 (by omega)
   clear hw1
   refine (lok_spec o l h _ x.a _ ta1 (by omega) _ ha).mono ?_; rintro e w2 ⟨rfl, f2⟩
   have b2 := b1.trans (f2.mono (by omega))
   have z2 := f2.size
   have ci2 := cell_keep f2 ci1
   have ca2 := cell_keep f2 ca1
   have cb2 := cell_keep f2 cb1
   have ck2 := cell_keep f2 ck1
   have ta2 := ta1.keep f2 (by omega)
   have tb2 := tb1.keep f2 (by omega)
   clear ci1 ca1 cb1 ck1 ta1 tb1
   have lci2 : w.heap.size < w2.heap.size := World.block_lt_of_cell? _ _ ci2
   go_wp2_with fail
   refine name_call fun w3 hw3 => ?_
   have b3 : Below w.heap.size w w3 := by rw [hw3]; (repeat (with_reducible first | exact bR _ _ | assumption | refine bD ?_ | refine bN ?_ _ | refine bA ?_ _ | refine bS ?_ _))
   have z3 : w2.heap.size + 0 ≤ w3.heap.size := by rw [hw3]; simp
   have e3 : Below w2.heap.size w2 w3 := by rw [hw3]; (repeat (with_reducible first | exact bR _ _ | assumption | refine bD ?_ | refine bN ?_ _ | refine bA ?_ _ | refine bS ?_ _))
   have ci3 := cell_keep e3 ci2
   have ca3 := cell_keep e3 ca2
   have cb3 := cell_keep e3 cb2
   have ck3 := cell_keep e3 ck2
   have ta3 := ta2.keep e3 (by omega)
   have tb3 := tb2.keep e3 (by omega)
   clear hw3 lci2 ci2 ca2 cb2 ck2 ta2 tb2
   refine (lok_spec o l h _ x.b _ tb3 (by omega) _ hb).mono ?_; rintro e w4 ⟨rfl, f4⟩
   have b4 := b3.trans (f4.mono (by omega))
   have z4 := f4.size
   have ci4 := cell_keep f4 ci3
   have ca4 := cell_keep f4 ca3
   have cb4 := cell_keep f4 cb3
   have ck4 := cell_keep f4 ck3
   have ta4 := ta3.keep f4 (by omega)
   have tb4 := tb3.keep f4 (by omega)
   clear ci3 ca3 cb3 ck3 ta3 tb3
   have lci4 : w.heap.size < w4.heap.size := World.block_lt_of_cell? _ _ ci4
   go_wp2_with fail
   refine name_call fun w5 hw5 => ?_
   have b5 : Below w.heap.size w w5 := by rw [hw5]; (repeat (with_reducible first | exact bR _ _ | assumption | refine bD ?_ | refine bN ?_ _ | refine bA ?_ _ | refine bS ?_ _))
   have z5 : w4.heap.size + 0 ≤ w5.heap.size := by rw [hw5]; simp
   have e5 : Below w4.heap.size w4 w5 := by rw [hw5]; (repeat (with_reducible first | exact bR _ _ | assumption | refine bD ?_ | refine bN ?_ _ | refine bA ?_ _ | refine bS ?_ _))
   have ci5 := cell_keep e5 ci4
   have ca5 := cell_keep e5 ca4
   have cb5 := cell_keep e5 cb4
   have ck5 := cell_keep e5 ck4
   have ta5 := ta4.keep e5 (by omega)
   have tb5 := tb4.keep e5 (by omega)
   clear hw5 lci4 ci4 ca4 cb4 ck4 ta4 tb4
   refine (l2w_any o l h _ x.a n _ ta5 (by omega) n0 n1 ha _ ga).mono ?_; rintro e w6 ⟨rfl, f6⟩
   have b6 := b5.trans (f6.mono (by omega))
   have z6 := f6.size
   have ci6 := cell_keep f6 ci5
   have ca6 := cell_keep f6 ca5
   have cb6 := cell_keep f6 cb5
   have ck6 := cell_keep f6 ck5
   have ta6 := ta5.keep f6 (by omega)
   have tb6 := tb5.keep f6 (by omega)
   clear ci5 ca5 cb5 ck5 ta5 tb5
   have lci6 : w.heap.size < w6.heap.size := World.block_lt_of_cell? _ _ ci6
   go_wp2_with fail
   refine name_call fun w7 hw7 => ?_
   have b7 : Below w.heap.size w w7 := by rw [hw7]; (repeat (with_reducible first | exact bR _ _ | assumption | refine bD ?_ | refine bN ?_ _ | refine bA ?_ _ | refine bS ?_ _))
   have z7 : w6.heap.size + 0 ≤ w7.heap.size := by rw [hw7]; simp
   have e7 : Below w6.heap.size w6 w7 := by rw [hw7]; (repeat (with_reducible first | exact bR _ _ | assumption | refine bD ?_ | refine bN ?_ _ | refine bA ?_ _ | refine bS ?_ _))
   have ci7 := cell_keep e7 ci6
   have ca7 := cell_keep e7 ca6
   have cb7 := cell_keep e7 cb6
   have ck7 := cell_keep e7 ck6
   have ta7 := ta6.keep e7 (by omega)
   have tb7 := tb6.keep e7 (by omega)
   clear hw7 lci6 ci6 ca6 cb6 ck6 ta6 tb6
   refine (l2w_any o l h _ x.b n _ tb7 (by omega) n0 n1 hb _ gb).mono ?_; rintro e w8 ⟨rfl, f8⟩
   have b8 := b7.trans (f8.mono (by omega))
   have z8 := f8.size
   have ci8 := cell_keep f8 ci7
   have ca8 := cell_keep f8 ca7
   have cb8 := cell_keep f8 cb7
   have ck8 := cell_keep f8 ck7
   have ta8 := ta7.keep f8 (by omega)
   have tb8 := tb7.keep f8 (by omega)
   clear ci7 ca7 cb7 ck7 ta7 tb7
   go_wp2_with fail
   go_ret
   first | exact ⟨ret_bool HR.out.symm, b8⟩ | exact ⟨ret_bool (by rw [HR.out]; simp; omega), b8⟩
  by_cases z0 : x.k = 0
  ·have P0 : (x.kind == 0) = false := by simp [q1]
   have P1 : (x.kind != 0) = true := by simp [q1]
   have P2 : (x.kind == 3) = false := by simp [q1]
   have P3 : (x.kind != 3) = true := by simp [q1]
   have P4 : (x.kind == 1) = true := by simp [q1]
   have B0 : ¬ 0 < x.b.length := by omega
   have K0 : (x.k == 0) = true := by simp [z0]
   have HR : Hid (hintW n x = true) := Lib.hid (by rw [HK.out]; unfold kindOk; rw [decide_eq_true_iff]; omega)
   clear q1 u0 u1 y0 z0
   clear kf
   go_enter Tryz.func58, Tryz.ntmps58
   go_wp2_with fail
   refine name_call fun w1 hw1 => ?_
   have b1 : Below w.heap.size w w1 := by rw [hw1]; (repeat (with_reducible first | exact bR _ _ | assumption | refine bD ?_ | refine bN ?_ _ | refine bA ?_ _ | refine bS ?_ _))
   have z1 : w.heap.size + 1 ≤ w1.heap.size := by rw [hw1]; simp
   have e1 : Below w.heap.size w w1 := by rw [hw1]; (repeat (with_reducible first | exact bR _ _ | assumption | refine bD ?_ | refine bN ?_ _ | refine bA ?_ _ | refine bS ?_ _))
   have ci1 : w1.cell? ⟨w.heap.size, 0, none⟩ = some (.int .i64 x.kind) := by rw [hw1]; first | (simp; done) | go_simp
   have ca1 : w1.cell? ⟨w.heap.size, 1, none⟩ = some (.slice aa x.a.length ka) := by rw [hw1]; first | (simp; done) | go_simp
   have cb1 : w1.cell? ⟨w.heap.size, 2, none⟩ = some (.slice ab x.b.length kb) := by rw [hw1]; first | (simp; done) | go_simp
   have ck1 : w1.cell? ⟨w.heap.size, 3, none⟩ = some (.int .i64 x.k) := by rw [hw1]; first | (simp; done) | go_simp
   have ta1 := ta.keep e1 (by omega)
   have tb1 := tb.keep e1 (by omega)
   clear hw1
   refine (lok_spec o l h _ x.a _ ta1 (by omega) _ ha).mono ?_; rintro e w2 ⟨rfl, f2⟩
   have b2 := b1.trans (f2.mono (by omega))
   have z2 := f2.size
   have ci2 := cell_keep f2 ci1
   have ca2 := cell_keep f2 ca1
   have cb2 := cell_keep f2 cb1
   have ck2 := cell_keep f2 ck1
   have ta2 := ta1.keep f2 (by omega)
   have tb2 := tb1.keep f2 (by omega)
   clear ci1 ca1 cb1 ck1 ta1 tb1
   have lci2 : w.heap.size < w2.heap.size := World.block_lt_of_cell? _ _ ci2
   go_wp2_with fail
   refine name_call fun w3 hw3 => ?_
   have b3 : Below w.heap.size w w3 := by rw [hw3]; (repeat (with_reducible first | exact bR _ _ | assumption | refine bD ?_ | refine bN ?_ _ | refine bA ?_ _ | refine bS ?_ _))
   have z3 : w2.heap.size + 0 ≤ w3.heap.size := by rw [hw3]; simp
   have e3 : Below w2.heap.size w2 w3 := by rw [hw3]; (repeat (with_reducible first | exact bR _ _ | assumption | refine bD ?_ | refine bN ?_ _ | refine bA ?_ _ | refine bS ?_ _))
   have ci3 := cell_keep e3 ci2
   have ca3 := cell_keep e3 ca2
   have cb3 := cell_keep e3 cb2
   have ck3 := cell_keep e3 ck2
   have ta3 := ta2.keep e3 (by omega)
   have tb3 := tb2.keep e3 (by omega)
   clear hw3 lci2 ci2 ca2 cb2 ck2 ta2 tb2
   refine (lok_spec o l h _ x.b _ tb3 (by omega) _ hb).mono ?_; rintro e w4 ⟨rfl, f4⟩
   have b4 := b3.trans (f4.mono (by omega))
   have z4 := f4.size
   have ci4 := cell_keep f4 ci3
   have ca4 := cell_keep f4 ca3
   have cb4 := cell_keep f4 cb3
   have ck4 := cell_keep f4 ck3
   have ta4 := ta3.keep f4 (by omega)
   have tb4 := tb3.keep f4 (by omega)
   clear ci3 ca3 cb3 ck3 ta3 tb3
   have lci4 : w.heap.size < w4.heap.size := World.block_lt_of_cell? _ _ ci4
   go_wp2_with fail
   refine name_call fun w5 hw5 => ?_
   have b5 : Below w.heap.size w w5 := by rw [hw5]; (repeat (with_reducible first | exact bR _ _ | assumption | refine bD ?_ | refine bN ?_ _ | refine bA ?_ _ | refine bS ?_ _))
   have z5 : w4.heap.size + 0 ≤ w5.heap.size := by rw [hw5]; simp
   have e5 : Below w4.heap.size w4 w5 := by rw [hw5]; (repeat (with_reducible first | exact bR _ _ | assumption | refine bD ?_ | refine bN ?_ _ | refine bA ?_ _ | refine bS ?_ _))
   have ci5 := cell_keep e5 ci4
   have ca5 := cell_keep e5 ca4
   have cb5 := cell_keep e5 cb4
   have ck5 := cell_keep e5 ck4
   have ta5 := ta4.keep e5 (by omega)
   have tb5 := tb4.keep e5 (by omega)
   clear hw5 lci4 ci4 ca4 cb4 ck4 ta4 tb4
   refine (l2w_any o l h _ x.a n _ ta5 (by omega) n0 n1 ha _ ga).mono ?_; rintro e w6 ⟨rfl, f6⟩
   have b6 := b5.trans (f6.mono (by omega))
   have z6 := f6.size
   have ci6 := cell_keep f6 ci5
   have ca6 := cell_keep f6 ca5
   have cb6 := cell_keep f6 cb5
   have ck6 := cell_keep f6 ck5
   have ta6 := ta5.keep f6 (by omega)
   have tb6 := tb5.keep f6 (by omega)
   clear ci5 ca5 cb5 ck5 ta5 tb5
   have lci6 : w.heap.size < w6.heap.size := World.block_lt_of_cell? _ _ ci6
   go_wp2_with fail
   refine name_call fun w7 hw7 => ?_
   have b7 : Below w.heap.size w w7 := by rw [hw7]; (repeat (with_reducible first | exact bR _ _ | assumption | refine bD ?_ | refine bN ?_ _ | refine bA ?_ _ | refine bS ?_ _))
   have z7 : w6.heap.size + 0 ≤ w7.heap.size := by rw [hw7]; simp
   have e7 : Below w6.heap.size w6 w7 := by rw [hw7]; (repeat (with_reducible first | exact bR _ _ | assumption | refine bD ?_ | refine bN ?_ _ | refine bA ?_ _ | refine bS ?_ _))
   have ci7 := cell_keep e7 ci6
   have ca7 := cell_keep e7 ca6
   have cb7 := cell_keep e7 cb6
   have ck7 := cell_keep e7 ck6
   have ta7 := ta6.keep e7 (by omega)
   have tb7 := tb6.keep e7 (by omega)
   clear hw7 lci6 ci6 ca6 cb6 ck6 ta6 tb6
   refine (l2w_any o l h _ x.b n _ tb7 (by omega) n0 n1 hb _ gb).mono ?_; rintro e w8 ⟨rfl, f8⟩
   have b8 := b7.trans (f8.mono (by omega))
   have z8 := f8.size
   have ci8 := cell_keep f8 ci7
   have ca8 := cell_keep f8 ca7
   have cb8 := cell_keep f8 cb7
   have ck8 := cell_keep f8 ck7
   have ta8 := ta7.keep f8 (by omega)
   have tb8 := tb7.keep f8 (by omega)
   clear ci7 ca7 cb7 ck7 ta7 tb7
   go_wp2_with fail
   go_ret
   first | exact ⟨ret_bool HR.out.symm, b8⟩ | exact ⟨ret_bool (by rw [HR.out]; simp; omega), b8⟩
  by_cases z1 : x.k > 0
  case' neg =>
   have P0 : (x.kind == 0) = false := by simp [q1]
   have P1 : (x.kind != 0) = true := by simp [q1]
   have P2 : (x.kind == 3) = false := by simp [q1]
   have P3 : (x.kind != 3) = true := by simp [q1]
   have P4 : (x.kind == 1) = true := by simp [q1]
   have B0 : ¬ 0 < x.b.length := by omega
   have K0 : (x.k == 0) = false := by simp [z0]
   have K1 : ¬ 0 < x.k := by omega
   have HR : Hid (hintW n x = false) := Lib.hid (by rw [HK.out]; unfold kindOk; rw [decide_eq_false_iff_not]; omega)
   clear q1 u0 u1 y0 z0 z1
   clear kf
   go_enter Tryz.func58, Tryz.ntmps58
   go_wp2_with fail
   refine name_call fun w1 hw1 => ?_
   have b1 : Below w.heap.size w w1 := by rw [hw1]; (repeat (with_reducible first | exact bR _ _ | assumption | refine bD ?_ | refine bN ?_ _ | refine bA ?_ _ | refine bS ?_ _))
   have z1 : w.heap.size + 1 ≤ w1.heap.size := by rw [hw1]; simp
   have e1 : Below w.heap.size w w1 := by rw [hw1]; (repeat (with_reducible first | exact bR _ _ | assumption | refine bD ?_ | refine bN ?_ _ | refine bA ?_ _ | refine bS ?_ _))
   have ci1 : w1.cell? ⟨w.heap.size, 0, none⟩ = some (.int .i64 x.kind) := by rw [hw1]; first | (simp; done) | go_simp
   have ca1 : w1.cell? ⟨w.heap.size, 1, none⟩ = some (.slice aa x.a.length ka) := by rw [hw1]; first | (simp; done) | go_simp
   have cb1 : w1.cell? ⟨w.heap.size, 2, none⟩ = some (.slice ab x.b.length kb) := by rw [hw1]; first | (simp; done) | go_simp
   have ck1 : w1.cell? ⟨w.heap.size, 3, none⟩ = some (.int .i64 x.k) := by rw [hw1]; first | (simp; done) | go_simp
   have ta1 := ta.keep e1 (by omega)
   have tb1 := tb.keep e1 (by omega)
   clear hw1
   refine (lok_spec o l h _ x.a _ ta1 (by omega) _ ha).mono ?_; rintro e w2 ⟨rfl, f2⟩
   have b2 := b1.trans (f2.mono (by omega))
   have z2 := f2.size
   have ci2 := cell_keep f2 ci1
   have ca2 := cell_keep f2 ca1
   have cb2 := cell_keep f2 cb1
   have ck2 := cell_keep f2 ck1
   have ta2 := ta1.keep f2 (by omega)
   have tb2 := tb1.keep f2 (by omega)
   clear ci1 ca1 cb1 ck1 ta1 tb1
   have lci2 : w.heap.size < w2.heap.size := World.block_lt_of_cell? _ _ ci2
   go_wp2_with fail
   refine name_call fun w3 hw3 => ?_
   have b3 : Below w.heap.size w w3 := by rw [hw3]; (repeat (with_reducible first | exact bR _ _ | assumption | refine bD ?_ | refine bN ?_ _ | refine bA ?_ _ | refine bS ?_ _))
   have z3 : w2.heap.size + 0 ≤ w3.heap.size := by rw [hw3]; simp
   have e3 : Below w2.heap.size w2 w3 := by rw [hw3]; (repeat (with_reducible first | exact bR _ _ | assumption | refine bD ?_ | refine bN ?_ _ | refine bA ?_ _ | refine bS ?_ _))
   have ci3 := cell_keep e3 ci2
   have ca3 := cell_keep e3 ca2
   have cb3 := cell_keep e3 cb2
   have ck3 := cell_keep e3 ck2
   have ta3 := ta2.keep e3 (by omega)
   have tb3 := tb2.keep e3 (by omega)
   clear hw3 lci2 ci2 ca2 cb2 ck2 ta2 tb2
   refine (lok_spec o l h _ x.b _ tb3 (by omega) _ hb).mono ?_; rintro e w4 ⟨rfl, f4⟩
   have b4 := b3.trans (f4.mono (by omega))
   have z4 := f4.size
   have ci4 := cell_keep f4 ci3
   have ca4 := cell_keep f4 ca3
   have cb4 := cell_keep f4 cb3
   have ck4 := cell_keep f4 ck3
   have ta4 := ta3.keep f4 (by omega)
   have tb4 := tb3.keep f4 (by omega)
   clear ci3 ca3 cb3 ck3 ta3 tb3
   have lci4 : w.heap.size < w4.heap.size := World.block_lt_of_cell? _ _ ci4
   go_wp2_with fail
   refine name_call fun w5 hw5 => ?_
   have b5 : Below w.heap.size w w5 := by rw [hw5]; (repeat (with_reducible first | exact bR _ _ | assumption | refine bD ?_ | refine bN ?_ _ | refine bA ?_ _ | refine bS ?_ _))
   have z5 : w4.heap.size + 0 ≤ w5.heap.size := by rw [hw5]; simp
   have e5 : Below w4.heap.size w4 w5 := by rw [hw5]; (repeat (with_reducible first | exact bR _ _ | assumption | refine bD ?_ | refine bN ?_ _ | refine bA ?_ _ | refine bS ?_ _))
   have ci5 := cell_keep e5 ci4
   have ca5 := cell_keep e5 ca4
   have cb5 := cell_keep e5 cb4
   have ck5 := cell_keep e5 ck4
   have ta5 := ta4.keep e5 (by omega)
   have tb5 := tb4.keep e5 (by omega)
   clear hw5 lci4 ci4 ca4 cb4 ck4 ta4 tb4
   refine (l2w_any o l h _ x.a n _ ta5 (by omega) n0 n1 ha _ ga).mono ?_; rintro e w6 ⟨rfl, f6⟩
   have b6 := b5.trans (f6.mono (by omega))
   have z6 := f6.size
   have ci6 := cell_keep f6 ci5
   have ca6 := cell_keep f6 ca5
   have cb6 := cell_keep f6 cb5
   have ck6 := cell_keep f6 ck5
   have ta6 := ta5.keep f6 (by omega)
   have tb6 := tb5.keep f6 (by omega)
   clear ci5 ca5 cb5 ck5 ta5 tb5
   have lci6 : w.heap.size < w6.heap.size := World.block_lt_of_cell? _ _ ci6
   go_wp2_with fail
   refine name_call fun w7 hw7 => ?_
   have b7 : Below w.heap.size w w7 := by rw [hw7]; (repeat (with_reducible first | exact bR _ _ | assumption | refine bD ?_ | refine bN ?_ _ | refine bA ?_ _ | refine bS ?_ _))
   have z7 : w6.heap.size + 0 ≤ w7.heap.size := by rw [hw7]; simp
   have e7 : Below w6.heap.size w6 w7 := by rw [hw7]; (repeat (with_reducible first | exact bR _ _ | assumption | refine bD ?_ | refine bN ?_ _ | refine bA ?_ _ | refine bS ?_ _))
   have ci7 := cell_keep e7 ci6
   have ca7 := cell_keep e7 ca6
   have cb7 := cell_keep e7 cb6
   have ck7 := cell_keep e7 ck6
   have ta7 := ta6.keep e7 (by omega)
   have tb7 := tb6.keep e7 (by omega)
   clear hw7 lci6 ci6 ca6 cb6 ck6 ta6 tb6
   refine (l2w_any o l h _ x.b n _ tb7 (by omega) n0 n1 hb _ gb).mono ?_; rintro e w8 ⟨rfl, f8⟩
   have b8 := b7.trans (f8.mono (by omega))
   have z8 := f8.size
   have ci8 := cell_keep f8 ci7
   have ca8 := cell_keep f8 ca7
   have cb8 := cell_keep f8 cb7
   have ck8 := cell_keep f8 ck7
   have ta8 := ta7.keep f8 (by omega)
   have tb8 := tb7.keep f8 (by omega)
   clear ci7 ca7 cb7 ck7 ta7 tb7
   go_wp2_with fail
   go_ret
   first | exact ⟨ret_bool HR.out.symm, b8⟩ | exact ⟨ret_bool (by rw [HR.out]; simp; omega), b8⟩
  by_cases z2 : x.k ≤ 30
  case' neg =>
   have P0 : (x.kind == 0) = false := by simp [q1]
   have P1 : (x.kind != 0) = true := by simp [q1]
   have P2 : (x.kind == 3) = false := by simp [q1]
   have P3 : (x.kind != 3) = true := by simp [q1]
   have P4 : (x.kind == 1) = true := by simp [q1]
   have B0 : ¬ 0 < x.b.length := by omega
   have K0 : (x.k == 0) = false := by simp [z0]
   have K1 : 0 < x.k := by omega
   have K2 : ¬ x.k ≤ 30 := by omega
   have HR : Hid (hintW n x = false) := Lib.hid (by rw [HK.out]; unfold kindOk; rw [decide_eq_false_iff_not]; omega)
   clear q1 u0 u1 y0 z0 z1 z2
   clear kf
   go_enter Tryz.func58, Tryz.ntmps58
   go_wp2_with fail
   refine name_call fun w1 hw1 => ?_
   have b1 : Below w.heap.size w w1 := by rw [hw1]; (repeat (with_reducible first | exact bR _ _ | assumption | refine bD ?_ | refine bN ?_ _ | refine bA ?_ _ | refine bS ?_ _))
   have z1 : w.heap.size + 1 ≤ w1.heap.size := by rw [hw1]; simp
   have e1 : Below w.heap.size w w1 := by rw [hw1]; (repeat (with_reducible first | exact bR _ _ | assumption | refine bD ?_ | refine bN ?_ _ | refine bA ?_ _ | refine bS ?_ _))
   have ci1 : w1.cell? ⟨w.heap.size, 0, none⟩ = some (.int .i64 x.kind) := by rw [hw1]; first | (simp; done) | go_simp
   have ca1 : w1.cell? ⟨w.heap.size, 1, none⟩ = some (.slice aa x.a.length ka) := by rw [hw1]; first | (simp; done) | go_simp
   have cb1 : w1.cell? ⟨w.heap.size, 2, none⟩ = some (.slice ab x.b.length kb) := by rw [hw1]; first | (simp; done) | go_simp
   have ck1 : w1.cell? ⟨w.heap.size, 3, none⟩ = some (.int .i64 x.k) := by rw [hw1]; first | (simp; done) | go_simp
   have ta1 := ta.keep e1 (by omega)
   have tb1 := tb.keep e1 (by omega)
   clear hw1
   refine (lok_spec o l h _ x.a _ ta1 (by omega) _ ha).mono ?_; rintro e w2 ⟨rfl, f2⟩
   have b2 := b1.trans (f2.mono (by omega))
   have z2 := f2.size
   have ci2 := cell_keep f2 ci1
   have ca2 := cell_keep f2 ca1
   have cb2 := cell_keep f2 cb1
   have ck2 := cell_keep f2 ck1
   have ta2 := ta1.keep f2 (by omega)
   have tb2 := tb1.keep f2 (by omega)
   clear ci1 ca1 cb1 ck1 ta1 tb1
   have lci2 : w.heap.size < w2.heap.size := World.block_lt_of_cell? _ _ ci2
   go_wp2_with fail
   refine name_call fun w3 hw3 => ?_
   have b3 : Below w.heap.size w w3 := by rw [hw3]; (repeat (with_reducible first | exact bR _ _ | assumption | refine bD ?_ | refine bN ?_ _ | refine bA ?_ _ | refine bS ?_ _))
   have z3 : w2.heap.size + 0 ≤ w3.heap.size := by rw [hw3]; simp
   have e3 : Below w2.heap.size w2 w3 := by rw [hw3]; (repeat (with_reducible first | exact bR _ _ | assumption | refine bD ?_ | refine bN ?_ _ | refine bA ?_ _ | refine bS ?_ _))
   have ci3 := cell_keep e3 ci2
   have ca3 := cell_keep e3 ca2
   have cb3 := cell_keep e3 cb2
   have ck3 := cell_keep e3 ck2
   have ta3 := ta2.keep e3 (by omega)
   have tb3 := tb2.keep e3 (by omega)
   clear hw3 lci2 ci2 ca2 cb2 ck2 ta2 tb2
   refine (lok_spec o l h _ x.b _ tb3 (by omega) _ hb).mono ?_; rintro e w4 ⟨rfl, f4⟩
   have b4 := b3.trans (f4.mono (by omega))
   have z4 := f4.size
   have ci4 := cell_keep f4 ci3
   have ca4 := cell_keep f4 ca3
   have cb4 := cell_keep f4 cb3
   have ck4 := cell_keep f4 ck3
   have ta4 := ta3.keep f4 (by omega)
   have tb4 := tb3.keep f4 (by omega)
   clear ci3 ca3 cb3 ck3 ta3 tb3
   have lci4 : w.heap.size < w4.heap.size := World.block_lt_of_cell? _ _ ci4
   go_wp2_with fail
   refine name_call fun w5 hw5 => ?_
   have b5 : Below w.heap.size w w5 := by rw [hw5]; (repeat (with_reducible first | exact bR _ _ | assumption | refine bD ?_ | refine bN ?_ _ | refine bA ?_ _ | refine bS ?_ _))
   have z5 : w4.heap.size + 0 ≤ w5.heap.size := by rw [hw5]; simp
   have e5 : Below w4.heap.size w4 w5 := by rw [hw5]; (repeat (with_reducible first | exact bR _ _ | assumption | refine bD ?_ | refine bN ?_ _ | refine bA ?_ _ | refine bS ?_ _))
   have ci5 := cell_keep e5 ci4
   have ca5 := cell_keep e5 ca4
   have cb5 := cell_keep e5 cb4
   have ck5 := cell_keep e5 ck4
   have ta5 := ta4.keep e5 (by omega)
   have tb5 := tb4.keep e5 (by omega)
   clear hw5 lci4 ci4 ca4 cb4 ck4 ta4 tb4
   refine (l2w_any o l h _ x.a n _ ta5 (by omega) n0 n1 ha _ ga).mono ?_; rintro e w6 ⟨rfl, f6⟩
   have b6 := b5.trans (f6.mono (by omega))
   have z6 := f6.size
   have ci6 := cell_keep f6 ci5
   have ca6 := cell_keep f6 ca5
   have cb6 := cell_keep f6 cb5
   have ck6 := cell_keep f6 ck5
   have ta6 := ta5.keep f6 (by omega)
   have tb6 := tb5.keep f6 (by omega)
   clear ci5 ca5 cb5 ck5 ta5 tb5
   have lci6 : w.heap.size < w6.heap.size := World.block_lt_of_cell? _ _ ci6
   go_wp2_with fail
   refine name_call fun w7 hw7 => ?_
   have b7 : Below w.heap.size w w7 := by rw [hw7]; (repeat (with_reducible first | exact bR _ _ | assumption | refine bD ?_ | refine bN ?_ _ | refine bA ?_ _ | refine bS ?_ _))
   have z7 : w6.heap.size + 0 ≤ w7.heap.size := by rw [hw7]; simp
   have e7 : Below w6.heap.size w6 w7 := by rw [hw7]; (repeat (with_reducible first | exact bR _ _ | assumption | refine bD ?_ | refine bN ?_ _ | refine bA ?_ _ | refine bS ?_ _))
   have ci7 := cell_keep e7 ci6
   have ca7 := cell_keep e7 ca6
   have cb7 := cell_keep e7 cb6
   have ck7 := cell_keep e7 ck6
   have ta7 := ta6.keep e7 (by omega)
   have tb7 := tb6.keep e7 (by omega)
   clear hw7 lci6 ci6 ca6 cb6 ck6 ta6 tb6
   refine (l2w_any o l h _ x.b n _ tb7 (by omega) n0 n1 hb _ gb).mono ?_; rintro e w8 ⟨rfl, f8⟩
   have b8 := b7.trans (f8.mono (by omega))
   have z8 := f8.size
   have ci8 := cell_keep f8 ci7
   have ca8 := cell_keep f8 ca7
   have cb8 := cell_keep f8 cb7
   have ck8 := cell_keep f8 ck7
   have ta8 := ta7.keep f8 (by omega)
   have tb8 := tb7.keep f8 (by omega)
   clear ci7 ca7 cb7 ck7 ta7 tb7
   go_wp2_with fail
   go_ret
   first | exact ⟨ret_bool HR.out.symm, b8⟩ | exact ⟨ret_bool (by rw [HR.out]; simp; omega), b8⟩
  have P0 : (x.kind == 0) = false := by simp [q1]
  have P1 : (x.kind != 0) = true := by simp [q1]
  have P2 : (x.kind == 3) = false := by simp [q1]
  have P3 : (x.kind != 3) = true := by simp [q1]
  have P4 : (x.kind == 1) = true := by simp [q1]
  have B0 : ¬ 0 < x.b.length := by omega
  have K0 : (x.k == 0) = false := by simp [z0]
  have K1 : 0 < x.k := by omega
  have K2 : x.k ≤ 30 := by omega
  have HR : Hid (hintW n x = true) := Lib.hid (by rw [HK.out]; unfold kindOk; rw [decide_eq_true_iff]; omega)
  clear q1 u0 u1 y0 z0 z1 z2
  clear kf
  go_enter Tryz.func58, Tryz.ntmps58
  go_wp2_with fail
  refine name_call fun w1 hw1 => ?_
  have b1 : Below w.heap.size w w1 := by rw [hw1]; (repeat (with_reducible first | exact bR _ _ | assumption | refine bD ?_ | refine bN ?_ _ | refine bA ?_ _ | refine bS ?_ _))
  have z1 : w.heap.size + 1 ≤ w1.heap.size := by rw [hw1]; simp
  have e1 : Below w.heap.size w w1 := by rw [hw1]; (repeat (with_reducible first | exact bR _ _ | assumption | refine bD ?_ | refine bN ?_ _ | refine bA ?_ _ | refine bS ?_ _))
  have ci1 : w1.cell? ⟨w.heap.size, 0, none⟩ = some (.int .i64 x.kind) := by rw [hw1]; first | (simp; done) | go_simp
  have ca1 : w1.cell? ⟨w.heap.size, 1, none⟩ = some (.slice aa x.a.length ka) := by rw [hw1]; first | (simp; done) | go_simp
  have cb1 : w1.cell? ⟨w.heap.size, 2, none⟩ = some (.slice ab x.b.length kb) := by rw [hw1]; first | (simp; done) | go_simp
  have ck1 : w1.cell? ⟨w.heap.size, 3, none⟩ = some (.int .i64 x.k) := by rw [hw1]; first | (simp; done) | go_simp
  have ta1 := ta.keep e1 (by omega)
  have tb1 := tb.keep e1 (by omega)
  clear hw1
  refine (lok_spec o l h _ x.a _ ta1 (by omega) _ ha).mono ?_; rintro e w2 ⟨rfl, f2⟩
  have b2 := b1.trans (f2.mono (by omega))
  have z2 := f2.size
  have ci2 := cell_keep f2 ci1
  have ca2 := cell_keep f2 ca1
  have cb2 := cell_keep f2 cb1
  have ck2 := cell_keep f2 ck1
  have ta2 := ta1.keep f2 (by omega)
  have tb2 := tb1.keep f2 (by omega)
  clear ci1 ca1 cb1 ck1 ta1 tb1
  have lci2 : w.heap.size < w2.heap.size := World.block_lt_of_cell? _ _ ci2
  go_wp2_with fail
  refine name_call fun w3 hw3 => ?_
  have b3 : Below w.heap.size w w3 := by rw [hw3]; (repeat (with_reducible first | exact bR _ _ | assumption | refine bD ?_ | refine bN ?_ _ | refine bA ?_ _ | refine bS ?_ _))
  have z3 : w2.heap.size + 0 ≤ w3.heap.size := by rw [hw3]; simp
  have e3 : Below w2.heap.size w2 w3 := by rw [hw3]; (repeat (with_reducible first | exact bR _ _ | assumption | refine bD ?_ | refine bN ?_ _ | refine bA ?_ _ | refine bS ?_ _))
  have ci3 := cell_keep e3 ci2
  have ca3 := cell_keep e3 ca2
  have cb3 := cell_keep e3 cb2
  have ck3 := cell_keep e3 ck2
  have ta3 := ta2.keep e3 (by omega)
  have tb3 := tb2.keep e3 (by omega)
  clear hw3 lci2 ci2 ca2 cb2 ck2 ta2 tb2
  refine (lok_spec o l h _ x.b _ tb3 (by omega) _ hb).mono ?_; rintro e w4 ⟨rfl, f4⟩
  have b4 := b3.trans (f4.mono (by omega))
  have z4 := f4.size
  have ci4 := cell_keep f4 ci3
  have ca4 := cell_keep f4 ca3
  have cb4 := cell_keep f4 cb3
  have ck4 := cell_keep f4 ck3
  have ta4 := ta3.keep f4 (by omega)
  have tb4 := tb3.keep f4 (by omega)
  clear ci3 ca3 cb3 ck3 ta3 tb3
  have lci4 : w.heap.size < w4.heap.size := World.block_lt_of_cell? _ _ ci4
  go_wp2_with fail
  refine name_call fun w5 hw5 => ?_
  have b5 : Below w.heap.size w w5 := by rw [hw5]; (repeat (with_reducible first | exact bR _ _ | assumption | refine bD ?_ | refine bN ?_ _ | refine bA ?_ _ | refine bS ?_ _))
  have z5 : w4.heap.size + 0 ≤ w5.heap.size := by rw [hw5]; simp
  have e5 : Below w4.heap.size w4 w5 := by rw [hw5]; (repeat (with_reducible first | exact bR _ _ | assumption | refine bD ?_ | refine bN ?_ _ | refine bA ?_ _ | refine bS ?_ _))
  have ci5 := cell_keep e5 ci4
  have ca5 := cell_keep e5 ca4
  have cb5 := cell_keep e5 cb4
  have ck5 := cell_keep e5 ck4
  have ta5 := ta4.keep e5 (by omega)
  have tb5 := tb4.keep e5 (by omega)
  clear hw5 lci4 ci4 ca4 cb4 ck4 ta4 tb4
  refine (l2w_any o l h _ x.a n _ ta5 (by omega) n0 n1 ha _ ga).mono ?_; rintro e w6 ⟨rfl, f6⟩
  have b6 := b5.trans (f6.mono (by omega))
  have z6 := f6.size
  have ci6 := cell_keep f6 ci5
  have ca6 := cell_keep f6 ca5
  have cb6 := cell_keep f6 cb5
  have ck6 := cell_keep f6 ck5
  have ta6 := ta5.keep f6 (by omega)
  have tb6 := tb5.keep f6 (by omega)
  clear ci5 ca5 cb5 ck5 ta5 tb5
  have lci6 : w.heap.size < w6.heap.size := World.block_lt_of_cell? _ _ ci6
  go_wp2_with fail
  refine name_call fun w7 hw7 => ?_
  have b7 : Below w.heap.size w w7 := by rw [hw7]; (repeat (with_reducible first | exact bR _ _ | assumption | refine bD ?_ | refine bN ?_ _ | refine bA ?_ _ | refine bS ?_ _))
  have z7 : w6.heap.size + 0 ≤ w7.heap.size := by rw [hw7]; simp
  have e7 : Below w6.heap.size w6 w7 := by rw [hw7]; (repeat (with_reducible first | exact bR _ _ | assumption | refine bD ?_ | refine bN ?_ _ | refine bA ?_ _ | refine bS ?_ _))
  have ci7 := cell_keep e7 ci6
  have ca7 := cell_keep e7 ca6
  have cb7 := cell_keep e7 cb6
  have ck7 := cell_keep e7 ck6
  have ta7 := ta6.keep e7 (by omega)
  have tb7 := tb6.keep e7 (by omega)
  clear hw7 lci6 ci6 ca6 cb6 ck6 ta6 tb6
  refine (l2w_any o l h _ x.b n _ tb7 (by omega) n0 n1 hb _ gb).mono ?_; rintro e w8 ⟨rfl, f8⟩
  have b8 := b7.trans (f8.mono (by omega))
  have z8 := f8.size
  have ci8 := cell_keep f8 ci7
  have ca8 := cell_keep f8 ca7
  have cb8 := cell_keep f8 cb7
  have ck8 := cell_keep f8 ck7
  have ta8 := ta7.keep f8 (by omega)
  have tb8 := tb7.keep f8 (by omega)
  clear ci7 ca7 cb7 ck7 ta7 tb7
  go_wp2_with fail
  go_ret
  first | exact ⟨ret_bool HR.out.symm, b8⟩ | exact ⟨ret_bool (by rw [HR.out]; simp; omega), b8⟩
 have q2 : x.kind = 2 := by omega
 by_cases y0 : x.b.length = 0
 case' neg =>
  have P0 : (x.kind == 0) = false := by simp [q2]
  have P1 : (x.kind != 0) = true := by simp [q2]
  have P2 : (x.kind == 3) = false := by simp [q2]
  have P3 : (x.kind != 3) = true := by simp [q2]
  have P4 : (x.kind == 1) = false := by simp [q2]
  have B0 : 0 < x.b.length := by omega
  have HR : Hid (hintW n x = false) := Lib.hid (by rw [HK.out]; unfold kindOk; rw [decide_eq_false_iff_not]; omega)
  clear q2 u0 u1 y0
  clear kf
  go_enter Tryz.func58, Tryz.ntmps58
  go_wp2_with fail
  refine name_call fun w1 hw1 => ?_
  have b1 : Below w.heap.size w w1 := by rw [hw1]; (repeat (with_reducible first | exact bR _ _ | assumption | refine bD ?_ | refine bN ?_ _ | refine bA ?_ _ | refine bS ?_ _))
  have z1 : w.heap.size + 1 ≤ w1.heap.size := by rw [hw1]; simp
  have e1 : Below w.heap.size w w1 := by rw [hw1]; (repeat (with_reducible first | exact bR _ _ | assumption | refine bD ?_ | refine bN ?_ _ | refine bA ?_ _ | refine bS ?_ _))
  have ci1 : w1.cell? ⟨w.heap.size, 0, none⟩ = some (.int .i64 x.kind) := by rw [hw1]; first | (simp; done) | go_simp
  have ca1 : w1.cell? ⟨w.heap.size, 1, none⟩ = some (.slice aa x.a.length ka) := by rw [hw1]; first | (simp; done) | go_simp
  have cb1 : w1.cell? ⟨w.heap.size, 2, none⟩ = some (.slice ab x.b.length kb) := by rw [hw1]; first | (simp; done) | go_simp
  have ck1 : w1.cell? ⟨w.heap.size, 3, none⟩ = some (.int .i64 x.k) := by rw [hw1]; first | (simp; done) | go_simp
  have ta1 := ta.keep e1 (by omega)
  have tb1 := tb.keep e1 (by omega)
  clear hw1
  refine (lok_spec o l h _ x.a _ ta1 (by omega) _ ha).mono ?_; rintro e w2 ⟨rfl, f2⟩
  have b2 := b1.trans (f2.mono (by omega))
  have z2 := f2.size
  have ci2 := cell_keep f2 ci1
  have ca2 := cell_keep f2 ca1
  have cb2 := cell_keep f2 cb1
  have ck2 := cell_keep f2 ck1
  have ta2 := ta1.keep f2 (by omega)
  have tb2 := tb1.keep f2 (by omega)
  clear ci1 ca1 cb1 ck1 ta1 tb1
  have lci2 : w.heap.size < w2.heap.size := World.block_lt_of_cell? _ _ ci2
  go_wp2_with fail
  refine name_call fun w3 hw3 => ?_
  have b3 : Below w.heap.size w w3 := by rw [hw3]; (repeat (with_reducible first | exact bR _ _ | assumption | refine bD ?_ | refine bN ?_ _ | refine bA ?_ _ | refine bS ?_ _))
  have z3 : w2.heap.size + 0 ≤ w3.heap.size := by rw [hw3]; simp
  have e3 : Below w2.heap.size w2 w3 := by rw [hw3]; (repeat (with_reducible first | exact bR _ _ | assumption | refine bD ?_ | refine bN ?_ _ | refine bA ?_ _ | refine bS ?_ _))
  have ci3 := cell_keep e3 ci2
  have ca3 := cell_keep e3 ca2
  have cb3 := cell_keep e3 cb2
  have ck3 := cell_keep e3 ck2
  have ta3 := ta2.keep e3 (by omega)
  have tb3 := tb2.keep e3 (by omega)
  clear hw3 lci2 ci2 ca2 cb2 ck2 ta2 tb2
  refine (lok_spec o l h _ x.b _ tb3 (by omega) _ hb).mono ?_; rintro e w4 ⟨rfl, f4⟩
  have b4 := b3.trans (f4.mono (by omega))
  have z4 := f4.size
  have ci4 := cell_keep f4 ci3
  have ca4 := cell_keep f4 ca3
  have cb4 := cell_keep f4 cb3
  have ck4 := cell_keep f4 ck3
  have ta4 := ta3.keep f4 (by omega)
  have tb4 := tb3.keep f4 (by omega)
  clear ci3 ca3 cb3 ck3 ta3 tb3
  have lci4 : w.heap.size < w4.heap.size := World.block_lt_of_cell? _ _ ci4
  go_wp2_with fail
  refine name_call fun w5 hw5 => ?_
  have b5 : Below w.heap.size w w5 := by rw [hw5]; (repeat (with_reducible first | exact bR _ _ | assumption | refine bD ?_ | refine bN ?_ _ | refine bA ?_ _ | refine bS ?_ _))
  have z5 : w4.heap.size + 0 ≤ w5.heap.size := by rw [hw5]; simp
  have e5 : Below w4.heap.size w4 w5 := by rw [hw5]; (repeat (with_reducible first | exact bR _ _ | assumption | refine bD ?_ | refine bN ?_ _ | refine bA ?_ _ | refine bS ?_ _))
  have ci5 := cell_keep e5 ci4
  have ca5 := cell_keep e5 ca4
  have cb5 := cell_keep e5 cb4
  have ck5 := cell_keep e5 ck4
  have ta5 := ta4.keep e5 (by omega)
  have tb5 := tb4.keep e5 (by omega)
  clear hw5 lci4 ci4 ca4 cb4 ck4 ta4 tb4
  refine (l2w_any o l h _ x.a n _ ta5 (by omega) n0 n1 ha _ ga).mono ?_; rintro e w6 ⟨rfl, f6⟩
  have b6 := b5.trans (f6.mono (by omega))
  have z6 := f6.size
  have ci6 := cell_keep f6 ci5
  have ca6 := cell_keep f6 ca5
  have cb6 := cell_keep f6 cb5
  have ck6 := cell_keep f6 ck5
  have ta6 := ta5.keep f6 (by omega)
  have tb6 := tb5.keep f6 (by omega)
  clear ci5 ca5 cb5 ck5 ta5 tb5
  have lci6 : w.heap.size < w6.heap.size := World.block_lt_of_cell? _ _ ci6
  go_wp2_with fail
  refine name_call fun w7 hw7 => ?_
  have b7 : Below w.heap.size w w7 := by rw [hw7]; (repeat (with_reducible first | exact bR _ _ | assumption | refine bD ?_ | refine bN ?_ _ | refine bA ?_ _ | refine bS ?_ _))
  have z7 : w6.heap.size + 0 ≤ w7.heap.size := by rw [hw7]; simp
  have e7 : Below w6.heap.size w6 w7 := by rw [hw7]; (repeat (with_reducible first | exact bR _ _ | assumption | refine bD ?_ | refine bN ?_ _ | refine bA ?_ _ | refine bS ?_ _))
  have ci7 := cell_keep e7 ci6
  have ca7 := cell_keep e7 ca6
  have cb7 := cell_keep e7 cb6
  have ck7 := cell_keep e7 ck6
  have ta7 := ta6.keep e7 (by omega)
  have tb7 := tb6.keep e7 (by omega)
  clear hw7 lci6 ci6 ca6 cb6 ck6 ta6 tb6
  refine (l2w_any o l h _ x.b n _ tb7 (by omega) n0 n1 hb _ gb).mono ?_; rintro e w8 ⟨rfl, f8⟩
  have b8 := b7.trans (f8.mono (by omega))
  have z8 := f8.size
  have ci8 := cell_keep f8 ci7
  have ca8 := cell_keep f8 ca7
  have cb8 := cell_keep f8 cb7
  have ck8 := cell_keep f8 ck7
  have ta8 := ta7.keep f8 (by omega)
  have tb8 := tb7.keep f8 (by omega)
  clear ci7 ca7 cb7 ck7 ta7 tb7
  go_wp2_with fail
  go_ret
  first | exact ⟨ret_bool HR.out.symm, b8⟩ | exact ⟨ret_bool (by rw [HR.out]; simp; omega), b8⟩
 by_cases z0 : x.k = 0
 ·have P0 : (x.kind == 0) = false := by simp [q2]
  have P1 : (x.kind != 0) = true := by simp [q2]
  have P2 : (x.kind == 3) = false := by simp [q2]
  have P3 : (x.kind != 3) = true := by simp [q2]
  have P4 : (x.kind == 1) = false := by simp [q2]
  have B0 : ¬ 0 < x.b.length := by omega
  have K0 : (x.k == 0) = true := by simp [z0]
  have HR : Hid (hintW n x = true) := Lib.hid (by rw [HK.out]; unfold kindOk; rw [decide_eq_true_iff]; omega)
  clear q2 u0 u1 y0 z0
  clear kf
  go_enter Tryz.func58, Tryz.ntmps58
  go_wp2_with fail
  refine name_call fun w1 hw1 => ?_
  have b1 : Below w.heap.size w w1 := by rw [hw1]; (repeat (with_reducible first | exact bR _ _ | assumption | refine bD ?_ | refine bN ?_ _ | refine bA ?_ _ | refine bS ?_ _))
  have z1 : w.heap.size + 1 ≤ w1.heap.size := by rw [hw1]; simp
  have e1 : Below w.heap.size w w1 := by rw [hw1]; (repeat (with_reducible first | exact bR _ _ | assumption | refine bD ?_ | refine bN ?_ _ | refine bA ?_ _ | refine bS ?_ _))
  have ci1 : w1.cell? ⟨w.heap.size, 0, none⟩ = some (.int .i64 x.kind) := by rw [hw1]; first | (simp; done) | go_simp
  have ca1 : w1.cell? ⟨w.heap.size, 1, none⟩ = some (.slice aa x.a.length ka) := by rw [hw1]; first | (simp; done) | go_simp
  have cb1 : w1.cell? ⟨w.heap.size, 2, none⟩ = some (.slice ab x.b.length kb) := by rw [hw1]; first | (simp; done) | go_simp
  have ck1 : w1.cell? ⟨w.heap.size, 3, none⟩ = some (.int .i64 x.k) := by rw [hw1]; first | (simp; done) | go_simp
  have ta1 := ta.keep e1 (by omega)
  have tb1 := tb.keep e1 (by omega)
  clear hw1
  refine (lok_spec o l h _ x.a _ ta1 (by omega) _ ha).mono ?_; rintro e w2 ⟨rfl, f2⟩
  have b2 := b1.trans (f2.mono (by omega))
  have z2 := f2.size
  have ci2 := cell_keep f2 ci1
  have ca2 := cell_keep f2 ca1
  have cb2 := cell_keep f2 cb1
  have ck2 := cell_keep f2 ck1
  have ta2 := ta1.keep f2 (by omega)
  have tb2 := tb1.keep f2 (by omega)
  clear ci1 ca1 cb1 ck1 ta1 tb1
  have lci2 : w.heap.size < w2.heap.size := World.block_lt_of_cell? _ _ ci2
  go_wp2_with fail
  refine name_call fun w3 hw3 => ?_
  have b3 : Below w.heap.size w w3 := by rw [hw3]; (repeat (with_reducible first | exact bR _ _ | assumption | refine bD ?_ | refine bN ?_ _ | refine bA ?_ _ | refine bS ?_ _))
  have z3 : w2.heap.size + 0 ≤ w3.heap.size := by rw [hw3]; simp
  have e3 : Below w2.heap.size w2 w3 := by rw [hw3]; (repeat (with_reducible first | exact bR _ _ | assumption | refine bD ?_ | refine bN ?_ _ | refine bA ?_ _ | refine bS ?_ _))
  have ci3 := cell_keep e3 ci2
  have ca3 := cell_keep e3 ca2
  have cb3 := cell_keep e3 cb2
  have ck3 := cell_keep e3 ck2
  have ta3 := ta2.keep e3 (by omega)
  have tb3 := tb2.keep e3 (by omega)
  clear hw3 lci2 ci2 ca2 cb2 ck2 ta2 tb2
  refine (lok_spec o l h _ x.b _ tb3 (by omega) _ hb).mono ?_; rintro e w4 ⟨rfl, f4⟩
  have b4 := b3.trans (f4.mono (by omega))
  have z4 := f4.size
  have ci4 := cell_keep f4 ci3
  have ca4 := cell_keep f4 ca3
  have cb4 := cell_keep f4 cb3
  have ck4 := cell_keep f4 ck3
  have ta4 := ta3.keep f4 (by omega)
  have tb4 := tb3.keep f4 (by omega)
  clear ci3 ca3 cb3 ck3 ta3 tb3
  have lci4 : w.heap.size < w4.heap.size := World.block_lt_of_cell? _ _ ci4
  go_wp2_with fail
  refine name_call fun w5 hw5 => ?_
  have b5 : Below w.heap.size w w5 := by rw [hw5]; (repeat (with_reducible first | exact bR _ _ | assumption | refine bD ?_ | refine bN ?_ _ | refine bA ?_ _ | refine bS ?_ _))
  have z5 : w4.heap.size + 0 ≤ w5.heap.size := by rw [hw5]; simp
  have e5 : Below w4.heap.size w4 w5 := by rw [hw5]; (repeat (with_reducible first | exact bR _ _ | assumption | refine bD ?_ | refine bN ?_ _ | refine bA ?_ _ | refine bS ?_ _))
  have ci5 := cell_keep e5 ci4
  have ca5 := cell_keep e5 ca4
  have cb5 := cell_keep e5 cb4
  have ck5 := cell_keep e5 ck4
  have ta5 := ta4.keep e5 (by omega)
  have tb5 := tb4.keep e5 (by omega)
  clear hw5 lci4 ci4 ca4 cb4 ck4 ta4 tb4
  refine (l2w_any o l h _ x.a n _ ta5 (by omega) n0 n1 ha _ ga).mono ?_; rintro e w6 ⟨rfl, f6⟩
  have b6 := b5.trans (f6.mono (by omega))
  have z6 := f6.size
  have ci6 := cell_keep f6 ci5
  have ca6 := cell_keep f6 ca5
  have cb6 := cell_keep f6 cb5
  have ck6 := cell_keep f6 ck5
  have ta6 := ta5.keep f6 (by omega)
  have tb6 := tb5.keep f6 (by omega)
  clear ci5 ca5 cb5 ck5 ta5 tb5
  have lci6 : w.heap.size < w6.heap.size := World.block_lt_of_cell? _ _ ci6
  go_wp2_with fail
  refine name_call fun w7 hw7 => ?_
  have b7 : Below w.heap.size w w7 := by rw [hw7]; (repeat (with_reducible first | exact bR _ _ | assumption | refine bD ?_ | refine bN ?_ _ | refine bA ?_ _ | refine bS ?_ _))
  have z7 : w6.heap.size + 0 ≤ w7.heap.size := by rw [hw7]; simp
  have e7 : Below w6.heap.size w6 w7 := by rw [hw7]; (repeat (with_reducible first | exact bR _ _ | assumption | refine bD ?_ | refine bN ?_ _ | refine bA ?_ _ | refine bS ?_ _))
  have ci7 := cell_keep e7 ci6
  have ca7 := cell_keep e7 ca6
  have cb7 := cell_keep e7 cb6
  have ck7 := cell_keep e7 ck6
  have ta7 := ta6.keep e7 (by omega)
  have tb7 := tb6.keep e7 (by omega)
  clear hw7 lci6 ci6 ca6 cb6 ck6 ta6 tb6
  refine (l2w_any o l h _ x.b n _ tb7 (by omega) n0 n1 hb _ gb).mono ?_; rintro e w8 ⟨rfl, f8⟩
  have b8 := b7.trans (f8.mono (by omega))
  have z8 := f8.size
  have ci8 := cell_keep f8 ci7
  have ca8 := cell_keep f8 ca7
  have cb8 := cell_keep f8 cb7
  have ck8 := cell_keep f8 ck7
  have ta8 := ta7.keep f8 (by omega)
  have tb8 := tb7.keep f8 (by omega)
  clear ci7 ca7 cb7 ck7 ta7 tb7
  go_wp2_with fail
  go_ret
  first | exact ⟨ret_bool HR.out.symm, b8⟩ | exact ⟨ret_bool (by rw [HR.out]; simp; omega), b8⟩
 ·have P0 : (x.kind == 0) = false := by simp [q2]
  have P1 : (x.kind != 0) = true := by simp [q2]
  have P2 : (x.kind == 3) = false := by simp [q2]
  have P3 : (x.kind != 3) = true := by simp [q2]
  have P4 : (x.kind == 1) = false := by simp [q2]
  have B0 : ¬ 0 < x.b.length := by omega
  have K0 : (x.k == 0) = false := by simp [z0]
  have HR : Hid (hintW n x = false) := Lib.hid (by rw [HK.out]; unfold kindOk; rw [decide_eq_false_iff_not]; omega)
  clear q2 u0 u1 y0 z0
  clear kf
  go_enter Tryz.func58, Tryz.ntmps58
  go_wp2_with fail
  refine name_call fun w1 hw1 => ?_
  have b1 : Below w.heap.size w w1 := by rw [hw1]; (repeat (with_reducible first | exact bR _ _ | assumption | refine bD ?_ | refine bN ?_ _ | refine bA ?_ _ | refine bS ?_ _))
  have z1 : w.heap.size + 1 ≤ w1.heap.size := by rw [hw1]; simp
  have e1 : Below w.heap.size w w1 := by rw [hw1]; (repeat (with_reducible first | exact bR _ _ | assumption | refine bD ?_ | refine bN ?_ _ | refine bA ?_ _ | refine bS ?_ _))
  have ci1 : w1.cell? ⟨w.heap.size, 0, none⟩ = some (.int .i64 x.kind) := by rw [hw1]; first | (simp; done) | go_simp
  have ca1 : w1.cell? ⟨w.heap.size, 1, none⟩ = some (.slice aa x.a.length ka) := by rw [hw1]; first | (simp; done) | go_simp
  have cb1 : w1.cell? ⟨w.heap.size, 2, none⟩ = some (.slice ab x.b.length kb) := by rw [hw1]; first | (simp; done) | go_simp
  have ck1 : w1.cell? ⟨w.heap.size, 3, none⟩ = some (.int .i64 x.k) := by rw [hw1]; first | (simp; done) | go_simp
  have ta1 := ta.keep e1 (by omega)
  have tb1 := tb.keep e1 (by omega)
  clear hw1
  refine (lok_spec o l h _ x.a _ ta1 (by omega) _ ha).mono ?_; rintro e w2 ⟨rfl, f2⟩
  have b2 := b1.trans (f2.mono (by omega))
  have z2 := f2.size
  have ci2 := cell_keep f2 ci1
  have ca2 := cell_keep f2 ca1
  have cb2 := cell_keep f2 cb1
  have ck2 := cell_keep f2 ck1
  have ta2 := ta1.keep f2 (by omega)
  have tb2 := tb1.keep f2 (by omega)
  clear ci1 ca1 cb1 ck1 ta1 tb1
  have lci2 : w.heap.size < w2.heap.size := World.block_lt_of_cell? _ _ ci2
  go_wp2_with fail
  refine name_call fun w3 hw3 => ?_
  have b3 : Below w.heap.size w w3 := by rw [hw3]; (repeat (with_reducible first | exact bR _ _ | assumption | refine bD ?_ | refine bN ?_ _ | refine bA ?_ _ | refine bS ?_ _))
  have z3 : w2.heap.size + 0 ≤ w3.heap.size := by rw [hw3]; simp
  have e3 : Below w2.heap.size w2 w3 := by rw [hw3]; (repeat (with_reducible first | exact bR _ _ | assumption | refine bD ?_ | refine bN ?_ _ | refine bA ?_ _ | refine bS ?_ _))
  have ci3 := cell_keep e3 ci2
  have ca3 := cell_keep e3 ca2
  have cb3 := cell_keep e3 cb2
  have ck3 := cell_keep e3 ck2
  have ta3 := ta2.keep e3 (by omega)
  have tb3 := tb2.keep e3 (by omega)
  clear hw3 lci2 ci2 ca2 cb2 ck2 ta2 tb2
  refine (lok_spec o l h _ x.b _ tb3 (by omega) _ hb).mono ?_; rintro e w4 ⟨rfl, f4⟩
  have b4 := b3.trans (f4.mono (by omega))
  have z4 := f4.size
  have ci4 := cell_keep f4 ci3
  have ca4 := cell_keep f4 ca3
  have cb4 := cell_keep f4 cb3
  have ck4 := cell_keep f4 ck3
  have ta4 := ta3.keep f4 (by omega)
  have tb4 := tb3.keep f4 (by omega)
  clear ci3 ca3 cb3 ck3 ta3 tb3
  have lci4 : w.heap.size < w4.heap.size := World.block_lt_of_cell? _ _ ci4
  go_wp2_with fail
  refine name_call fun w5 hw5 => ?_
  have b5 : Below w.heap.size w w5 := by rw [hw5]; (repeat (with_reducible first | exact bR _ _ | assumption | refine bD ?_ | refine bN ?_ _ | refine bA ?_ _ | refine bS ?_ _))
  have z5 : w4.heap.size + 0 ≤ w5.heap.size := by rw [hw5]; simp
  have e5 : Below w4.heap.size w4 w5 := by rw [hw5]; (repeat (with_reducible first | exact bR _ _ | assumption | refine bD ?_ | refine bN ?_ _ | refine bA ?_ _ | refine bS ?_ _))
  have ci5 := cell_keep e5 ci4
  have ca5 := cell_keep e5 ca4
  have cb5 := cell_keep e5 cb4
  have ck5 := cell_keep e5 ck4
  have ta5 := ta4.keep e5 (by omega)
  have tb5 := tb4.keep e5 (by omega)
  clear hw5 lci4 ci4 ca4 cb4 ck4 ta4 tb4
  refine (l2w_any o l h _ x.a n _ ta5 (by omega) n0 n1 ha _ ga).mono ?_; rintro e w6 ⟨rfl, f6⟩
  have b6 := b5.trans (f6.mono (by omega))
  have z6 := f6.size
  have ci6 := cell_keep f6 ci5
  have ca6 := cell_keep f6 ca5
  have cb6 := cell_keep f6 cb5
  have ck6 := cell_keep f6 ck5
  have ta6 := ta5.keep f6 (by omega)
  have tb6 := tb5.keep f6 (by omega)
  clear ci5 ca5 cb5 ck5 ta5 tb5
  have lci6 : w.heap.size < w6.heap.size := World.block_lt_of_cell? _ _ ci6
  go_wp2_with fail
  refine name_call fun w7 hw7 => ?_
  have b7 : Below w.heap.size w w7 := by rw [hw7]; (repeat (with_reducible first | exact bR _ _ | assumption | refine bD ?_ | refine bN ?_ _ | refine bA ?_ _ | refine bS ?_ _))
  have z7 : w6.heap.size + 0 ≤ w7.heap.size := by rw [hw7]; simp
  have e7 : Below w6.heap.size w6 w7 := by rw [hw7]; (repeat (with_reducible first | exact bR _ _ | assumption | refine bD ?_ | refine bN ?_ _ | refine bA ?_ _ | refine bS ?_ _))
  have ci7 := cell_keep e7 ci6
  have ca7 := cell_keep e7 ca6
  have cb7 := cell_keep e7 cb6
  have ck7 := cell_keep e7 ck6
  have ta7 := ta6.keep e7 (by omega)
  have tb7 := tb6.keep e7 (by omega)
  clear hw7 lci6 ci6 ca6 cb6 ck6 ta6 tb6
  refine (l2w_any o l h _ x.b n _ tb7 (by omega) n0 n1 hb _ gb).mono ?_; rintro e w8 ⟨rfl, f8⟩
  have b8 := b7.trans (f8.mono (by omega))
  have z8 := f8.size
  have ci8 := cell_keep f8 ci7
  have ca8 := cell_keep f8 ca7
  have cb8 := cell_keep f8 cb7
  have ck8 := cell_keep f8 ck7
  have ta8 := ta7.keep f8 (by omega)
  have tb8 := tb7.keep f8 (by omega)
  clear ci7 ca7 cb7 ck7 ta7 tb7
  go_wp2_with fail
  go_ret
  first | exact ⟨ret_bool HR.out.symm, b8⟩ | exact ⟨ret_bool (by rw [HR.out]; simp; omega), b8⟩
end Go.Proofs.YthipgpbapdambaaGreat.L

/- Values of valid combinations for assignments; whether a constraint holds. -/
namespace Go.Proofs.YthipgpbapdambaaGreat.L
open Go.RowKit Go.Proofs.YthipgpbapdambaaGreat.S
set_option linter.unusedVariables false
set_option linter.unusedSimpArgs false

theorem linW_within' {n : Nat} {ts : List T} (h : linW n ts = true) : linOk ts = true ∧ within n ts = true := by
 rw [linW_within, Bool.and_eq_true] at h
 exact h

set_option maxRecDepth 100000 in
set_option maxHeartbeats 1600000 in
theorem valueFor_any (o1 l1 h1 va ts) (lim : Nat) (v : Value) (xs : List Int) (w : World) (t1 : Terms o1 l1 h1 w va ts) (hw1 : h1 ≤ w.heap.size) (t2 : Ints lim w v xs) (hl : lim ≤ w.heap.size) (ha : isAsg xs = true) (hin : linW xs.length ts = true) :
  Calls Tryz.prog 102 #[.agg #[va], v] w fun e w' => e = .returned (.int .i64 (lval xs ts)) ∧ Below w.heap.size w w' := by
 obtain ⟨hk, hin⟩ := linW_within' hin
 obtain ⟨a, ca, rfl, la, ba⟩ := t1.shape
 obtain ⟨c, cc, rfl, lc, bc⟩ := t2.shape
 have nl := linOk_length hk
 obtain ⟨nx, fx⟩ := asg_fits ha
 have FX := Lib.hid fx
 have IN := Lib.hid (of_decide_eq_true hin)
 clear fx
 go_enter Tryz.func102, Tryz.ntmps102
 go_wp2_with fail
 go_loopw [5, 11] (fun s i wr => ∃ (k : Nat), k ≤ ts.length ∧ i = .int .i64 k ∧ s = .int .i64 (lval xs (ts.take k)) ∧ Below w.heap.size w wr) (fun _ i _ => ts.length - (intOf i).toNat)
 case atStart => exact ⟨0, Nat.zero_le _, rfl, rfl, by (repeat (with_reducible first | exact bR _ _ | assumption | refine bD ?_ | refine bN ?_ _ | refine bA ?_ _ | refine bS ?_ _))⟩
 case round =>
  obtain ⟨k, hkl, rfl, rfl, be⟩ := hrel
  have hz := be.size
  by_cases hlt : k < ts.length
  ·obtain ⟨b, off, x, y, rfl, l1', m1, c1, d1, e1, fx, fy⟩ := (t1.keep be hw1).at hlt
   obtain ⟨m, rfl, y0, y1⟩ := linOk_mem_at hk e1
   have hm : m < xs.length := by have := IN.out (m, y) (List.mem_of_getElem? e1); simp only at this; omega
   obtain ⟨b2', f2', z, rfl, l2', c2, e2, fz⟩ := (t2.keep be hl).at hm
   obtain ⟨z0, z1'⟩ := FX.out z (List.mem_of_getElem? e2)
   have HS := Lib.hid (lval_step (xs := xs) e1 (show xs[(m : Int).toNat]? = some z from e2))
   obtain ⟨s0, s1⟩ := lval_bd xs (ts.take k)
   generalize lval xs (ts.take k) = s at *
   have em := em_bd (y * z)
   have em2 := em_bd (s + y * z % 2147483647)
   have hmi : (m : Int) < (xs.length : Int) := by omega
   have s2 : b2' < wr.heap.size := World.block_lt_of_cell? wr _ c2
   clear e1 e2
   go_wp2_with fail
   go_quiet (first | (go_at_call 104; exact quiet_eq (times_any y z _ y0 y1 z0 z1')) | (go_at_call 119; exact quiet_eq (plus_any s (y * z % 2147483647) _ s0 s1 em.1 em.2)))
   go_wp2_with fail
   go_roundw
   case rel => exact ⟨k + 1, by omega, by go_num, by rw [HS.out], by (repeat (with_reducible first | exact bR _ _ | assumption | refine bD ?_ | refine bN ?_ _ | refine bA ?_ _ | refine bS ?_ _))⟩
   case measure => simp [intOf]; omega
  ·rw [take_end hlt]
   go_wp2_with fail
   go_ret
   exact ⟨rfl, be⟩

/-- Whether the constraint holds for the numbers xs. -/
def holdsB (xs : List Int) (c : ConC) : Bool := lval xs c.a * lval xs c.b % 2147483647 == lval xs c.c
def conHold (xs : List Int) (c : ConC) : Bool := isAsg xs && (conW xs.length c && holdsB xs c)
theorem conW_parts {n : Int} {c : ConC} (h : conW n c = true) : linW n c.a = true ∧ linW n c.b = true ∧ linW n c.c = true := by
 unfold conW at h
 rw [Bool.and_eq_true, Bool.and_eq_true] at h
 exact ⟨h.1, h.2.1, h.2.2⟩
end Go.Proofs.YthipgpbapdambaaGreat.L

/- Valid systems: the model's SysOk. -/
namespace Go.Proofs.YthipgpbapdambaaGreat.L
open Go.RowKit Go.Proofs.YthipgpbapdambaaGreat.S
set_option linter.unusedVariables false
set_option linter.unusedSimpArgs false

set_option maxRecDepth 100000 in
set_option maxHeartbeats 6400000 in
theorem sysOk_spec (o l h vi vo vh vc) (s : SysC) (w : World) (t : SysR o l h w vi vo vh vc s) (hw : h ≤ w.heap.size) (nh : s.hints.length ≤ 1048576) (no : s.outs.length ≤ 1048576) (nc : s.cons.length ≤ 1048576) :
  Calls Tryz.prog 19 #[.agg #[vi, vo, vh, vc]] w fun e w' => e = .returned (.bool (sysOk s)) ∧ Below w.heap.size w w' := by
 obtain ⟨tO, tH, tC⟩ := t.parts
 obtain ⟨ao, ko, ah, kh, ac, kc, rfl, rfl, rfl, rfl, lo, bo, lh, bh, lc, bc, fi⟩ := t.shape
 clear t
 cases hl : limB s
 ·have HR := Lib.hid (sysOk_lim hl)
  have hl' := of_decide_eq_false hl
  unfold varsN at hl'
  have cs : (s.ins < 0) ∨ (0 ≤ s.ins ∧ 100 < s.ins) ∨ (0 ≤ s.ins ∧ s.ins ≤ 100 ∧ 40 < s.outs.length) ∨ (0 ≤ s.ins ∧ s.ins ≤ 100 ∧ s.outs.length ≤ 40 ∧ 3000 < 1 + s.ins + s.hints.length) ∨ (0 ≤ s.ins ∧ s.ins ≤ 100 ∧ s.outs.length ≤ 40 ∧ 1 + s.ins + s.hints.length ≤ 3000 ∧ 4000 < s.cons.length) := by omega
  clear hl hl'
  rcases cs with h1 | ⟨h1, h2⟩ | ⟨h1, h2, h3⟩ | ⟨h1, h2, h3, h4⟩ | ⟨h1, h2, h3, h4, h5⟩
  ·go_enter Tryz.func19, Tryz.ntmps19
   go_wp2_with fail
   go_ret
   exact ⟨ret_bool HR.out.symm, by (repeat (with_reducible first | exact bR _ _ | assumption | refine bD ?_ | refine bN ?_ _ | refine bA ?_ _ | refine bS ?_ _))⟩
  ·go_enter Tryz.func19, Tryz.ntmps19
   go_wp2_with fail
   go_ret
   exact ⟨ret_bool HR.out.symm, by (repeat (with_reducible first | exact bR _ _ | assumption | refine bD ?_ | refine bN ?_ _ | refine bA ?_ _ | refine bS ?_ _))⟩
  ·go_enter Tryz.func19, Tryz.ntmps19
   go_wp2_with fail
   go_ret
   exact ⟨ret_bool HR.out.symm, by (repeat (with_reducible first | exact bR _ _ | assumption | refine bD ?_ | refine bN ?_ _ | refine bA ?_ _ | refine bS ?_ _))⟩
  ·go_enter Tryz.func19, Tryz.ntmps19
   go_wp2_with fail
   refine name_call fun w1 hw1 => ?_
   have b1 : Below w.heap.size w w1 := by rw [hw1]; (repeat (with_reducible first | exact bR _ _ | assumption | refine bD ?_ | refine bN ?_ _ | refine bA ?_ _ | refine bS ?_ _))
   have z1 : w.heap.size + 1 ≤ w1.heap.size := by rw [hw1]; simp
   have cI1 : w1.cell? ⟨w.heap.size, 0, none⟩ = some (.int .i64 s.ins) := by rw [hw1]; first | (simp; done) | go_simp
   have cO1 : w1.cell? ⟨w.heap.size, 1, none⟩ = some (.slice ao s.outs.length ko) := by rw [hw1]; first | (simp; done) | go_simp
   have cH1 : w1.cell? ⟨w.heap.size, 2, none⟩ = some (.slice ah s.hints.length kh) := by rw [hw1]; first | (simp; done) | go_simp
   have cC1 : w1.cell? ⟨w.heap.size, 3, none⟩ = some (.slice ac s.cons.length kc) := by rw [hw1]; first | (simp; done) | go_simp
   clear hw1
   refine (l3vars_any s ao ko ah kh ac kc _ h1 h2 nh).mono ?_; rintro e w2 ⟨rfl, f2⟩
   have b2 := b1.trans (f2.mono (by omega))
   have z2 := f2.size
   have cI2 := cell_keep f2 cI1
   have cO2 := cell_keep f2 cO1
   have cH2 := cell_keep f2 cH1
   have cC2 := cell_keep f2 cC1
   clear cI1 cO1 cH1 cC1
   go_wp2_with fail
   go_ret
   exact ⟨ret_bool HR.out.symm, b2⟩
  ·go_enter Tryz.func19, Tryz.ntmps19
   go_wp2_with fail
   refine name_call fun w1 hw1 => ?_
   have b1 : Below w.heap.size w w1 := by rw [hw1]; (repeat (with_reducible first | exact bR _ _ | assumption | refine bD ?_ | refine bN ?_ _ | refine bA ?_ _ | refine bS ?_ _))
   have z1 : w.heap.size + 1 ≤ w1.heap.size := by rw [hw1]; simp
   have cI1 : w1.cell? ⟨w.heap.size, 0, none⟩ = some (.int .i64 s.ins) := by rw [hw1]; first | (simp; done) | go_simp
   have cO1 : w1.cell? ⟨w.heap.size, 1, none⟩ = some (.slice ao s.outs.length ko) := by rw [hw1]; first | (simp; done) | go_simp
   have cH1 : w1.cell? ⟨w.heap.size, 2, none⟩ = some (.slice ah s.hints.length kh) := by rw [hw1]; first | (simp; done) | go_simp
   have cC1 : w1.cell? ⟨w.heap.size, 3, none⟩ = some (.slice ac s.cons.length kc) := by rw [hw1]; first | (simp; done) | go_simp
   clear hw1
   refine (l3vars_any s ao ko ah kh ac kc _ h1 h2 nh).mono ?_; rintro e w2 ⟨rfl, f2⟩
   have b2 := b1.trans (f2.mono (by omega))
   have z2 := f2.size
   have cI2 := cell_keep f2 cI1
   have cO2 := cell_keep f2 cO1
   have cH2 := cell_keep f2 cH1
   have cC2 := cell_keep f2 cC1
   clear cI1 cO1 cH1 cC1
   go_wp2_with fail
   go_ret
   exact ⟨ret_bool HR.out.symm, b2⟩
 obtain ⟨h1, h2, h3, h4, h5⟩ := limB_facts hl
 go_enter Tryz.func19, Tryz.ntmps19
 go_wp2_with fail
 refine name_call fun w1 hw1 => ?_
 have b1 : Below w.heap.size w w1 := by rw [hw1]; (repeat (with_reducible first | exact bR _ _ | assumption | refine bD ?_ | refine bN ?_ _ | refine bA ?_ _ | refine bS ?_ _))
 have z1 : w.heap.size + 1 ≤ w1.heap.size := by rw [hw1]; simp
 have cI1 : w1.cell? ⟨w.heap.size, 0, none⟩ = some (.int .i64 s.ins) := by rw [hw1]; first | (simp; done) | go_simp
 have cO1 : w1.cell? ⟨w.heap.size, 1, none⟩ = some (.slice ao s.outs.length ko) := by rw [hw1]; first | (simp; done) | go_simp
 have cH1 : w1.cell? ⟨w.heap.size, 2, none⟩ = some (.slice ah s.hints.length kh) := by rw [hw1]; first | (simp; done) | go_simp
 have cC1 : w1.cell? ⟨w.heap.size, 3, none⟩ = some (.slice ac s.cons.length kc) := by rw [hw1]; first | (simp; done) | go_simp
 clear hw1
 refine (l3vars_any s ao ko ah kh ac kc _ h1 h2 nh).mono ?_; rintro e w2 ⟨rfl, f2⟩
 have b2 := b1.trans (f2.mono (by omega))
 have z2 := f2.size
 have cI2 := cell_keep f2 cI1
 have cO2 := cell_keep f2 cO1
 have cH2 := cell_keep f2 cH1
 have cC2 := cell_keep f2 cC1
 clear cI1 cO1 cH1 cC1
 go_wp2_with fail
 go_loopw [3] (fun i wr => ∃ k : Nat, k ≤ s.hints.length ∧ i = .int .i64 k ∧ Below w.heap.size w wr ∧ w.heap.size < wr.heap.size ∧ wr.cell? ⟨w.heap.size, 0, none⟩ = some (.int .i64 s.ins) ∧ wr.cell? ⟨w.heap.size, 1, none⟩ = some (.slice ao s.outs.length ko) ∧ wr.cell? ⟨w.heap.size, 2, none⟩ = some (.slice ah s.hints.length kh) ∧ wr.cell? ⟨w.heap.size, 3, none⟩ = some (.slice ac s.cons.length kc) ∧ hintsB (1 + s.ins + k) (s.hints.drop k) = hintsB (1 + s.ins) s.hints) (fun i _ => s.hints.length - (intOf i).toNat)
 case atStart => exact ⟨0, Nat.zero_le _, rfl, b2, by omega, cI2, cO2, cH2, cC2, by simp⟩
 case round =>
  clear cI2 cO2 cH2 cC2
  obtain ⟨k, hk, rfl, be, zz, cI, cO, cH, cC, hq⟩ := hrel
  have HQ := Lib.hid hq
  clear hq
  by_cases hlt : k < s.hints.length
  ·obtain ⟨b, off, va, vb, rfl, l1, m1, c0, c1, c2, c3, f0, f3, ta, tb⟩ := (tH.keep be hw).at hlt
   obtain ⟨x, kx, rfl, lx, bx⟩ := ta.shape
   obtain ⟨y, ky, rfl, ly, by'⟩ := tb.shape
   have n0 : 0 ≤ 1 + s.ins + (k : Int) := by omega
   have n1 : 1 + s.ins + (k : Int) ≤ 3100 := by omega
   have e0 : 0 ≤ 1 + s.ins := by omega
   have i1 : IntKind.i64.wrap (1 + s.ins) = 1 + s.ins := IntWalk.i64_in _ (by omega)
   have i2 : IntKind.i64.wrap (1 + s.ins + (k : Int)) = 1 + s.ins + (k : Int) := IntWalk.i64_in _ (by omega)
   have bl : b < wr.heap.size := World.block_lt_of_cell? _ _ c0
   cases hh : hintW (1 + s.ins + k) s.hints[k]
   ·have E := Lib.hid (sysOk_hints (HQ.out.symm.trans (hintsB_stop hlt hh)))
    have HH := Lib.hid hh
    clear hh HQ
    go_wp2_with fail
    have dp : Below wr.heap.size wr wr.drew := (Below.refl _ _).drew
    have zdp : wr.heap.size ≤ wr.drew.heap.size := Nat.le_refl _
    have zep : wr.drew.heap.size ≤ wr.heap.size := Nat.le_refl _
    have gI : wr.drew.cell? ⟨w.heap.size, 0, none⟩ = some (.int .i64 s.ins) := cell_keep dp cI
    have gO : wr.drew.cell? ⟨w.heap.size, 1, none⟩ = some (.slice ao s.outs.length ko) := cell_keep dp cO
    have gH : wr.drew.cell? ⟨w.heap.size, 2, none⟩ = some (.slice (some ⟨b, off, none⟩) s.hints.length kh) := cell_keep dp cH
    have gC : wr.drew.cell? ⟨w.heap.size, 3, none⟩ = some (.slice ac s.cons.length kc) := cell_keep dp cC
    have g0 : wr.drew.cell? ⟨b, off + k * 4, none⟩ = some (.int .i64 s.hints[k].kind) := cell_keep dp c0
    have g1 : wr.drew.cell? ⟨b, off + k * 4 + 1, none⟩ = some (.slice x s.hints[k].a.length kx) := cell_keep dp c1
    have g2 : wr.drew.cell? ⟨b, off + k * 4 + 2, none⟩ = some (.slice y s.hints[k].b.length ky) := cell_keep dp c2
    have g3 : wr.drew.cell? ⟨b, off + k * 4 + 3, none⟩ = some (.int .i64 s.hints[k].k) := cell_keep dp c3
    have uA := ta.keep dp (by omega)
    have uB := tb.keep dp (by omega)
    go_region_held3 (fun w' => w'.cell? ⟨w.heap.size, 0, none⟩ = some (.int .i64 s.ins) ∧ w'.cell? ⟨w.heap.size, 1, none⟩ = some (.slice ao s.outs.length ko) ∧ w'.cell? ⟨w.heap.size, 2, none⟩ = some (.slice (some ⟨b, off, none⟩) s.hints.length kh) ∧ w'.cell? ⟨w.heap.size, 3, none⟩ = some (.slice ac s.cons.length kc) ∧ w'.cell? ⟨b, off + k * 4, none⟩ = some (.int .i64 s.hints[k].kind) ∧ w'.cell? ⟨b, off + k * 4 + 1, none⟩ = some (.slice x s.hints[k].a.length kx) ∧ w'.cell? ⟨b, off + k * 4 + 2, none⟩ = some (.slice y s.hints[k].b.length ky) ∧ w'.cell? ⟨b, off + k * 4 + 3, none⟩ = some (.int .i64 s.hints[k].k)) (first | exact ⟨gI, gO, gH, gC, g0, g1, g2, g3⟩ | exact ⟨cell_keep j1 gI, cell_keep j1 gO, cell_keep j1 gH, cell_keep j1 gC, cell_keep j1 g0, cell_keep j1 g1, cell_keep j1 g2, cell_keep j1 g3⟩)
     (first
      | (go_at_call 58; refine (l3hint_any o l h _ _ s.hints[k] (1 + s.ins + k) wr.drew uA uB f3 (by omega) n0 (by omega)).mono ?_; rw [HH.out]; rintro e v1 ⟨rfl, j1⟩))
    have s1 := j1.size
    have bz : Below w.heap.size w v1 := ((be.trans (dp.mono (by omega))).trans (j1.mono (by omega)))
    have kI := cell_keep j1 (gI)
    have kO := cell_keep j1 (gO)
    have kH := cell_keep j1 (gH)
    have kC := cell_keep j1 (gC)
    clear gI gO gH gC g0 g1 g2 g3 uA uB
    clear i1 i2
    go_wp2_with fail
    go_ret
    exact ⟨ret_bool E.out.symm, bz⟩
   have E := Lib.hid ((hintsB_step hlt hh).symm.trans HQ.out)
   have HH := Lib.hid hh
   clear hh HQ
   go_wp2_with fail
   have dq : Below wr.heap.size wr wr.drew := (Below.refl _ _).drew
   have zdq : wr.heap.size ≤ wr.drew.heap.size := Nat.le_refl _
   have zeq : wr.drew.heap.size ≤ wr.heap.size := Nat.le_refl _
   have gI : wr.drew.cell? ⟨w.heap.size, 0, none⟩ = some (.int .i64 s.ins) := cell_keep dq cI
   have gO : wr.drew.cell? ⟨w.heap.size, 1, none⟩ = some (.slice ao s.outs.length ko) := cell_keep dq cO
   have gH : wr.drew.cell? ⟨w.heap.size, 2, none⟩ = some (.slice (some ⟨b, off, none⟩) s.hints.length kh) := cell_keep dq cH
   have gC : wr.drew.cell? ⟨w.heap.size, 3, none⟩ = some (.slice ac s.cons.length kc) := cell_keep dq cC
   have g0 : wr.drew.cell? ⟨b, off + k * 4, none⟩ = some (.int .i64 s.hints[k].kind) := cell_keep dq c0
   have g1 : wr.drew.cell? ⟨b, off + k * 4 + 1, none⟩ = some (.slice x s.hints[k].a.length kx) := cell_keep dq c1
   have g2 : wr.drew.cell? ⟨b, off + k * 4 + 2, none⟩ = some (.slice y s.hints[k].b.length ky) := cell_keep dq c2
   have g3 : wr.drew.cell? ⟨b, off + k * 4 + 3, none⟩ = some (.int .i64 s.hints[k].k) := cell_keep dq c3
   have uA := ta.keep dq (by omega)
   have uB := tb.keep dq (by omega)
   go_region_held3 (fun w' => w'.cell? ⟨w.heap.size, 0, none⟩ = some (.int .i64 s.ins) ∧ w'.cell? ⟨w.heap.size, 1, none⟩ = some (.slice ao s.outs.length ko) ∧ w'.cell? ⟨w.heap.size, 2, none⟩ = some (.slice (some ⟨b, off, none⟩) s.hints.length kh) ∧ w'.cell? ⟨w.heap.size, 3, none⟩ = some (.slice ac s.cons.length kc) ∧ w'.cell? ⟨b, off + k * 4, none⟩ = some (.int .i64 s.hints[k].kind) ∧ w'.cell? ⟨b, off + k * 4 + 1, none⟩ = some (.slice x s.hints[k].a.length kx) ∧ w'.cell? ⟨b, off + k * 4 + 2, none⟩ = some (.slice y s.hints[k].b.length ky) ∧ w'.cell? ⟨b, off + k * 4 + 3, none⟩ = some (.int .i64 s.hints[k].k)) (first | exact ⟨gI, gO, gH, gC, g0, g1, g2, g3⟩ | exact ⟨cell_keep j1 gI, cell_keep j1 gO, cell_keep j1 gH, cell_keep j1 gC, cell_keep j1 g0, cell_keep j1 g1, cell_keep j1 g2, cell_keep j1 g3⟩)
    (first
     | (go_at_call 58; refine (l3hint_any o l h _ _ s.hints[k] (1 + s.ins + k) wr.drew uA uB f3 (by omega) n0 (by omega)).mono ?_; rw [HH.out]; rintro e v1 ⟨rfl, j1⟩))
   have s1 := j1.size
   have bz : Below w.heap.size w v1 := ((be.trans (dq.mono (by omega))).trans (j1.mono (by omega)))
   have kI := cell_keep j1 (gI)
   have kO := cell_keep j1 (gO)
   have kH := cell_keep j1 (gH)
   have kC := cell_keep j1 (gC)
   clear gI gO gH gC g0 g1 g2 g3 uA uB
   clear i1 i2
   go_wp2_with fail
   go_roundw
   case rel => exact ⟨k + 1, by omega, by go_num, bz, by omega, kI, kO, kH, kC, E.out⟩
   case measure => simp [intOf]; omega
  ·have HB : Hid (hintsB (1 + s.ins) s.hints = true) := Lib.hid (by rw [← HQ.out, List.drop_eq_nil_of_le (by omega)]; rfl)
   clear HQ
   go_wp2_with fail
   go_loopw [4] (fun i wr => ∃ k : Nat, k ≤ s.outs.length ∧ i = .int .i64 k ∧ Below w.heap.size w wr ∧ w.heap.size < wr.heap.size ∧ wr.cell? ⟨w.heap.size, 0, none⟩ = some (.int .i64 s.ins) ∧ wr.cell? ⟨w.heap.size, 1, none⟩ = some (.slice ao s.outs.length ko) ∧ wr.cell? ⟨w.heap.size, 2, none⟩ = some (.slice ah s.hints.length kh) ∧ wr.cell? ⟨w.heap.size, 3, none⟩ = some (.slice ac s.cons.length kc) ∧ (s.outs.drop k).all (linW (varsN s)) = s.outs.all (linW (varsN s))) (fun i _ => s.outs.length - (intOf i).toNat)
   case atStart => exact ⟨0, Nat.zero_le _, rfl, be, by omega, cI, cO, cH, cC, rfl⟩
   case round =>
    clear cI cO cH cC
    obtain ⟨k, hk, rfl, be, zz, cI, cO, cH, cC, hq⟩ := hrel
    have HQ := Lib.hid hq
    clear hq
    by_cases hlt : k < s.outs.length
    ·obtain ⟨b, off, va, rfl, l1, m1, c0, ta⟩ := (tO.keep be hw).at hlt
     obtain ⟨x, kx, rfl, lx, bx⟩ := ta.shape
     have bl : b < wr.heap.size := World.block_lt_of_cell? _ _ c0
     have w0 : 0 ≤ 1 + s.ins + (s.hints.length : Int) := by omega
     cases hk1 : linOk s.outs[k]
     ·have E := Lib.hid (sysOk_outs (HQ.out.symm.trans (all_stop hlt (linW_no hk1))))
      have HK1 := Lib.hid hk1
      clear hk1 HQ
      go_wp2_with fail
      have dp2 : Below wr.heap.size wr wr.drew := (Below.refl _ _).drew
      have zdp2 : wr.heap.size ≤ wr.drew.heap.size := Nat.le_refl _
      have zep2 : wr.drew.heap.size ≤ wr.heap.size := Nat.le_refl _
      have gI : wr.drew.cell? ⟨w.heap.size, 0, none⟩ = some (.int .i64 s.ins) := cell_keep dp2 cI
      have gO : wr.drew.cell? ⟨w.heap.size, 1, none⟩ = some (.slice (some ⟨b, off, none⟩) s.outs.length ko) := cell_keep dp2 cO
      have gH : wr.drew.cell? ⟨w.heap.size, 2, none⟩ = some (.slice ah s.hints.length kh) := cell_keep dp2 cH
      have gC : wr.drew.cell? ⟨w.heap.size, 3, none⟩ = some (.slice ac s.cons.length kc) := cell_keep dp2 cC
      have g0 : wr.drew.cell? ⟨b, off + k, none⟩ = some (.slice x s.outs[k].length kx) := cell_keep dp2 c0
      have uA := ta.keep dp2 (by omega)
      refine wp_region_held_drew (S := fun w' => w'.cell? ⟨w.heap.size, 0, none⟩ = some (.int .i64 s.ins) ∧ w'.cell? ⟨w.heap.size, 1, none⟩ = some (.slice (some ⟨b, off, none⟩) s.outs.length ko) ∧ w'.cell? ⟨w.heap.size, 2, none⟩ = some (.slice ah s.hints.length kh) ∧ w'.cell? ⟨w.heap.size, 3, none⟩ = some (.slice ac s.cons.length kc) ∧ w'.cell? ⟨b, off + k, none⟩ = some (.slice x s.outs[k].length kx)) (by kernel_rfl) ⟨gI, gO, gH, gC, g0⟩ (fun hHeld => ?_)
      refine wpAnyH_take (i := 0) rfl (by kernel_rfl) (by kernel_rfl) (by kernel_rfl) (fun _ _ _ h => h) (v := ?_) (Or.inl ⟨by rfl, ?_⟩) (by assumption) ?_
      case refine_2 => (intro w hSw; (try dsimp only at hSw); go_simp; (try with_reducible rfl))
      try simp only [Act.put, List.setIfInBounds_toArray, List.set_cons_zero, List.set_cons_succ, List.getElem_toArray, List.getElem_cons_succ, List.getElem_cons_zero]
      refine wpAnyH_take (i := 1) rfl (by kernel_rfl) (by kernel_rfl) (by kernel_rfl) (fun _ _ _ h => h) (v := ?_) (Or.inl ⟨by rfl, ?_⟩) (by assumption) ?_
      case refine_2 => (intro w hSw; (try dsimp only at hSw); go_simp; (try with_reducible rfl))
      try simp only [Act.put, List.setIfInBounds_toArray, List.set_cons_zero, List.set_cons_succ, List.getElem_toArray, List.getElem_cons_succ, List.getElem_cons_zero]
      refine wpAnyH_take (i := 2) rfl (by kernel_rfl) (by kernel_rfl) (by kernel_rfl) (fun _ _ _ h => h) (v := ?_) (Or.inl ⟨by rfl, ?_⟩) (by assumption) ?_
      case refine_2 => (intro w hSw; (try dsimp only at hSw); go_simp; (try with_reducible rfl))
      try simp only [Act.put, List.setIfInBounds_toArray, List.set_cons_zero, List.set_cons_succ, List.getElem_toArray, List.getElem_cons_succ, List.getElem_cons_zero]
      refine wpAnyH_take (i := 3) rfl (by kernel_rfl) (by kernel_rfl) (by kernel_rfl) (fun _ _ _ h => h) (v := ?_) (Or.inl ⟨by rfl, ?_⟩) (by assumption) ?_
      case refine_2 => (intro w hSw; (try dsimp only at hSw); go_simp; (try with_reducible rfl))
      try simp only [Act.put, List.setIfInBounds_toArray, List.set_cons_zero, List.set_cons_succ, List.getElem_toArray, List.getElem_cons_succ, List.getElem_cons_zero]
      refine wpAnyH_take (i := 4) rfl (by kernel_rfl) (by kernel_rfl) (by kernel_rfl) (fun _ _ _ h => h) (v := ?_) (Or.inl ⟨by rfl, ?_⟩) (by assumption) ?_
      case refine_2 => (intro w hSw; (try dsimp only at hSw); go_simp; (try with_reducible rfl))
      try simp only [Act.put, List.setIfInBounds_toArray, List.set_cons_zero, List.set_cons_succ, List.getElem_toArray, List.getElem_cons_succ, List.getElem_cons_zero]
      refine wpAnyH_ready (rs := [5]) (by kernel_rfl) (by simp) ?_
      refine AllReadyH.cons rfl (fun K hK => ?_) AllReadyH.nil
      go_simp
      go_at_call 59; refine (lok_spec o l h _ s.outs[k] wr.drew uA (by omega) _ HK1.out).mono ?_; rintro e v1 ⟨rfl, j1⟩
      refine hK.out _ _ ⟨cell_keep j1 gI, cell_keep j1 gO, cell_keep j1 gH, cell_keep j1 gC, cell_keep j1 g0⟩ (fun hHeld => ?_)
      clear hK K
      try simp only [Act.put, List.setIfInBounds_toArray, List.set_cons_zero, List.set_cons_succ]
      refine wpAnyH_take (i := 6) rfl (by kernel_rfl) (by kernel_rfl) (by kernel_rfl) (fun _ _ _ h => h) (v := ?_) (Or.inl ⟨by rfl, ?_⟩) (by assumption) ?_
      case refine_2 => (intro w hSw; (try dsimp only at hSw); go_simp; (try with_reducible rfl))
      try simp only [Act.put, List.setIfInBounds_toArray, List.set_cons_zero, List.set_cons_succ, List.getElem_toArray, List.getElem_cons_succ, List.getElem_cons_zero]
      refine wpAnyH_take (i := 7) rfl (by kernel_rfl) (by kernel_rfl) (by kernel_rfl) (fun _ _ _ h => h) (v := ?_) (Or.inl ⟨by rfl, ?_⟩) (by assumption) ?_
      case refine_2 => (intro w hSw; (try dsimp only at hSw); go_simp; (try with_reducible rfl))
      try simp only [Act.put, List.setIfInBounds_toArray, List.set_cons_zero, List.set_cons_succ, List.getElem_toArray, List.getElem_cons_succ, List.getElem_cons_zero]
      refine wpAnyH_take (i := 8) rfl (by kernel_rfl) (by kernel_rfl) (by kernel_rfl) (fun _ _ _ h => h) (Or.inr ⟨by rfl, rfl⟩) (by assumption) ?_
      try simp only [Act.put, List.setIfInBounds_toArray, List.set_cons_zero, List.set_cons_succ, List.getElem_toArray, List.getElem_cons_succ, List.getElem_cons_zero]
      refine wpAnyH_take (i := 9) rfl (by kernel_rfl) (by kernel_rfl) (by kernel_rfl) (fun _ _ _ h => h) (Or.inr ⟨by rfl, rfl⟩) (by assumption) ?_
      try simp only [Act.put, List.setIfInBounds_toArray, List.set_cons_zero, List.set_cons_succ, List.getElem_toArray, List.getElem_cons_succ, List.getElem_cons_zero]
      refine wpAnyH_take (i := 10) rfl (by kernel_rfl) (by kernel_rfl) (by kernel_rfl) (fun _ _ _ h => h) (Or.inr ⟨by rfl, rfl⟩) (by assumption) ?_
      try simp only [Act.put, List.setIfInBounds_toArray, List.set_cons_zero, List.set_cons_succ, List.getElem_toArray, List.getElem_cons_succ, List.getElem_cons_zero]
      refine wpAnyH_take (i := 11) rfl (by kernel_rfl) (by kernel_rfl) (by kernel_rfl) (fun _ _ _ h => h) (Or.inr ⟨by rfl, rfl⟩) (by assumption) ?_
      try simp only [Act.put, List.setIfInBounds_toArray, List.set_cons_zero, List.set_cons_succ, List.getElem_toArray, List.getElem_cons_succ, List.getElem_cons_zero]
      refine wpAnyH_take (i := 12) rfl (by kernel_rfl) (by kernel_rfl) (by kernel_rfl) (fun _ _ _ h => h) (Or.inr ⟨by rfl, rfl⟩) (by assumption) ?_
      try simp only [Act.put, List.setIfInBounds_toArray, List.set_cons_zero, List.set_cons_succ, List.getElem_toArray, List.getElem_cons_succ, List.getElem_cons_zero]
      refine wpAnyH_take (i := 13) rfl (by kernel_rfl) (by kernel_rfl) (by kernel_rfl) (fun _ _ _ h => h) (Or.inr ⟨by rfl, rfl⟩) (by assumption) ?_
      try simp only [Act.put, List.setIfInBounds_toArray, List.set_cons_zero, List.set_cons_succ, List.getElem_toArray, List.getElem_cons_succ, List.getElem_cons_zero]
      refine wpAnyH_take (i := 14) rfl (by kernel_rfl) (by kernel_rfl) (by kernel_rfl) (fun _ _ _ h => h) (Or.inr ⟨by rfl, rfl⟩) (by assumption) ?_
      try simp only [Act.put, List.setIfInBounds_toArray, List.set_cons_zero, List.set_cons_succ, List.getElem_toArray, List.getElem_cons_succ, List.getElem_cons_zero]
      refine wpAnyH_take (i := 15) rfl (by kernel_rfl) (by kernel_rfl) (by kernel_rfl) (fun _ _ _ h => h) (Or.inr ⟨by rfl, rfl⟩) (by assumption) ?_
      try simp only [Act.put, List.setIfInBounds_toArray, List.set_cons_zero, List.set_cons_succ, List.getElem_toArray, List.getElem_cons_succ, List.getElem_cons_zero]
      refine wpAnyH_take (i := 16) rfl (by kernel_rfl) (by kernel_rfl) (by kernel_rfl) (fun _ _ _ h => h) (Or.inr ⟨by rfl, rfl⟩) (by assumption) ?_
      try simp only [Act.put, List.setIfInBounds_toArray, List.set_cons_zero, List.set_cons_succ, List.getElem_toArray, List.getElem_cons_succ, List.getElem_cons_zero]
      refine wpAnyH_take (i := 17) rfl (by kernel_rfl) (by kernel_rfl) (by kernel_rfl) (fun _ _ _ h => h) (v := ?_) (Or.inl ⟨by rfl, ?_⟩) (by assumption) ?_
      case refine_2 => (intro w hSw; (try dsimp only at hSw); go_simp; (try with_reducible rfl))
      try simp only [Act.put, List.setIfInBounds_toArray, List.set_cons_zero, List.set_cons_succ, List.getElem_toArray, List.getElem_cons_succ, List.getElem_cons_zero]
      refine wpAnyH_done (by kernel_rfl) ?_ _
      have s1 := j1.size
      have bz : Below w.heap.size w v1 := ((be.trans (dp2.mono (by omega))).trans (j1.mono (by omega)))
      go_wp2_with fail
      go_ret
      exact ⟨ret_bool E.out.symm, bz⟩
     cases hh : linW (varsN s) s.outs[k]
     ·have E := Lib.hid (sysOk_outs (HQ.out.symm.trans (all_stop hlt hh)))
      have HK1 := Lib.hid hk1
      have HH : Hid (linW (1 + s.ins + s.hints.length) s.outs[k] = false) := Lib.hid hh
      clear hk1 hh HQ
      go_wp2_with fail
      have dp3 : Below wr.heap.size wr wr.drew := (Below.refl _ _).drew
      have zdp3 : wr.heap.size ≤ wr.drew.heap.size := Nat.le_refl _
      have zep3 : wr.drew.heap.size ≤ wr.heap.size := Nat.le_refl _
      have gI : wr.drew.cell? ⟨w.heap.size, 0, none⟩ = some (.int .i64 s.ins) := cell_keep dp3 cI
      have gO : wr.drew.cell? ⟨w.heap.size, 1, none⟩ = some (.slice (some ⟨b, off, none⟩) s.outs.length ko) := cell_keep dp3 cO
      have gH : wr.drew.cell? ⟨w.heap.size, 2, none⟩ = some (.slice ah s.hints.length kh) := cell_keep dp3 cH
      have gC : wr.drew.cell? ⟨w.heap.size, 3, none⟩ = some (.slice ac s.cons.length kc) := cell_keep dp3 cC
      have g0 : wr.drew.cell? ⟨b, off + k, none⟩ = some (.slice x s.outs[k].length kx) := cell_keep dp3 c0
      have uA := ta.keep dp3 (by omega)
      go_region_held3 (fun w' => w'.cell? ⟨w.heap.size, 0, none⟩ = some (.int .i64 s.ins) ∧ w'.cell? ⟨w.heap.size, 1, none⟩ = some (.slice (some ⟨b, off, none⟩) s.outs.length ko) ∧ w'.cell? ⟨w.heap.size, 2, none⟩ = some (.slice ah s.hints.length kh) ∧ w'.cell? ⟨w.heap.size, 3, none⟩ = some (.slice ac s.cons.length kc) ∧ w'.cell? ⟨b, off + k, none⟩ = some (.slice x s.outs[k].length kx)) (first | exact ⟨gI, gO, gH, gC, g0⟩ | exact ⟨cell_keep j1 gI, cell_keep j1 gO, cell_keep j1 gH, cell_keep j1 gC, cell_keep j1 g0⟩ | exact ⟨cell_keep j2 (cell_keep j1 gI), cell_keep j2 (cell_keep j1 gO), cell_keep j2 (cell_keep j1 gH), cell_keep j2 (cell_keep j1 gC), cell_keep j2 (cell_keep j1 g0)⟩ | exact ⟨cell_keep j3 (cell_keep j2 (cell_keep j1 gI)), cell_keep j3 (cell_keep j2 (cell_keep j1 gO)), cell_keep j3 (cell_keep j2 (cell_keep j1 gH)), cell_keep j3 (cell_keep j2 (cell_keep j1 gC)), cell_keep j3 (cell_keep j2 (cell_keep j1 g0))⟩)
       (first
        | (go_at_call 59; refine (lok_spec o l h _ s.outs[k] wr.drew uA (by omega) _ HK1.out).mono ?_; rintro e v1 ⟨rfl, j1⟩; have s1 := j1.size)
        | (go_at_call 57; refine (l3vars_any s _ _ _ _ _ _ v1 h1 h2 nh).mono ?_; rintro e v2 ⟨rfl, j2⟩; have s2 := j2.size)
        | (go_at_call 60; refine (l2w_any o l h _ s.outs[k] (1 + s.ins + s.hints.length) v2 ((uA.keep j1 (by omega)).keep j2 (by omega)) (by omega) w0 (by omega) HK1.out _ HH.out).mono ?_; rintro e v3 ⟨rfl, j3⟩))
      have s1 := j1.size
      have s2 := j2.size
      have s3 := j3.size
      have bz : Below w.heap.size w v3 := ((((be.trans (dp3.mono (by omega))).trans (j1.mono (by omega))).trans (j2.mono (by omega))).trans (j3.mono (by omega)))
      have kI := cell_keep j3 (cell_keep j2 (cell_keep j1 (gI)))
      have kO := cell_keep j3 (cell_keep j2 (cell_keep j1 (gO)))
      have kH := cell_keep j3 (cell_keep j2 (cell_keep j1 (gH)))
      have kC := cell_keep j3 (cell_keep j2 (cell_keep j1 (gC)))
      clear gI gO gH gC g0 uA
      go_wp2_with fail
      go_ret
      exact ⟨ret_bool E.out.symm, bz⟩
     have E := Lib.hid ((all_step hlt hh).symm.trans HQ.out)
     have HK1 := Lib.hid hk1
     have HH : Hid (linW (1 + s.ins + s.hints.length) s.outs[k] = true) := Lib.hid hh
     clear hk1 hh HQ
     go_wp2_with fail
     have dq3 : Below wr.heap.size wr wr.drew := (Below.refl _ _).drew
     have zdq3 : wr.heap.size ≤ wr.drew.heap.size := Nat.le_refl _
     have zeq3 : wr.drew.heap.size ≤ wr.heap.size := Nat.le_refl _
     have gI : wr.drew.cell? ⟨w.heap.size, 0, none⟩ = some (.int .i64 s.ins) := cell_keep dq3 cI
     have gO : wr.drew.cell? ⟨w.heap.size, 1, none⟩ = some (.slice (some ⟨b, off, none⟩) s.outs.length ko) := cell_keep dq3 cO
     have gH : wr.drew.cell? ⟨w.heap.size, 2, none⟩ = some (.slice ah s.hints.length kh) := cell_keep dq3 cH
     have gC : wr.drew.cell? ⟨w.heap.size, 3, none⟩ = some (.slice ac s.cons.length kc) := cell_keep dq3 cC
     have g0 : wr.drew.cell? ⟨b, off + k, none⟩ = some (.slice x s.outs[k].length kx) := cell_keep dq3 c0
     have uA := ta.keep dq3 (by omega)
     go_region_held3 (fun w' => w'.cell? ⟨w.heap.size, 0, none⟩ = some (.int .i64 s.ins) ∧ w'.cell? ⟨w.heap.size, 1, none⟩ = some (.slice (some ⟨b, off, none⟩) s.outs.length ko) ∧ w'.cell? ⟨w.heap.size, 2, none⟩ = some (.slice ah s.hints.length kh) ∧ w'.cell? ⟨w.heap.size, 3, none⟩ = some (.slice ac s.cons.length kc) ∧ w'.cell? ⟨b, off + k, none⟩ = some (.slice x s.outs[k].length kx)) (first | exact ⟨gI, gO, gH, gC, g0⟩ | exact ⟨cell_keep j1 gI, cell_keep j1 gO, cell_keep j1 gH, cell_keep j1 gC, cell_keep j1 g0⟩ | exact ⟨cell_keep j2 (cell_keep j1 gI), cell_keep j2 (cell_keep j1 gO), cell_keep j2 (cell_keep j1 gH), cell_keep j2 (cell_keep j1 gC), cell_keep j2 (cell_keep j1 g0)⟩ | exact ⟨cell_keep j3 (cell_keep j2 (cell_keep j1 gI)), cell_keep j3 (cell_keep j2 (cell_keep j1 gO)), cell_keep j3 (cell_keep j2 (cell_keep j1 gH)), cell_keep j3 (cell_keep j2 (cell_keep j1 gC)), cell_keep j3 (cell_keep j2 (cell_keep j1 g0))⟩)
      (first
       | (go_at_call 59; refine (lok_spec o l h _ s.outs[k] wr.drew uA (by omega) _ HK1.out).mono ?_; rintro e v1 ⟨rfl, j1⟩; have s1 := j1.size)
       | (go_at_call 57; refine (l3vars_any s _ _ _ _ _ _ v1 h1 h2 nh).mono ?_; rintro e v2 ⟨rfl, j2⟩; have s2 := j2.size)
       | (go_at_call 60; refine (l2w_any o l h _ s.outs[k] (1 + s.ins + s.hints.length) v2 ((uA.keep j1 (by omega)).keep j2 (by omega)) (by omega) w0 (by omega) HK1.out _ HH.out).mono ?_; rintro e v3 ⟨rfl, j3⟩))
     have s1 := j1.size
     have s2 := j2.size
     have s3 := j3.size
     have bz : Below w.heap.size w v3 := ((((be.trans (dq3.mono (by omega))).trans (j1.mono (by omega))).trans (j2.mono (by omega))).trans (j3.mono (by omega)))
     have kI := cell_keep j3 (cell_keep j2 (cell_keep j1 (gI)))
     have kO := cell_keep j3 (cell_keep j2 (cell_keep j1 (gO)))
     have kH := cell_keep j3 (cell_keep j2 (cell_keep j1 (gH)))
     have kC := cell_keep j3 (cell_keep j2 (cell_keep j1 (gC)))
     clear gI gO gH gC g0 uA
     go_wp2_with fail
     go_roundw
     case rel => exact ⟨k + 1, by omega, by go_num, bz, by omega, kI, kO, kH, kC, E.out⟩
     case measure => simp [intOf]; omega
    ·have HO : Hid (outsB (varsN s) s.outs = true) := Lib.hid (HQ.out.symm.trans (by rw [List.drop_eq_nil_of_le (by omega)]; rfl))
     clear HQ
     go_wp2_with fail
     go_loopw [5] (fun i wr => ∃ k : Nat, k ≤ s.cons.length ∧ i = .int .i64 k ∧ Below w.heap.size w wr ∧ w.heap.size < wr.heap.size ∧ wr.cell? ⟨w.heap.size, 0, none⟩ = some (.int .i64 s.ins) ∧ wr.cell? ⟨w.heap.size, 1, none⟩ = some (.slice ao s.outs.length ko) ∧ wr.cell? ⟨w.heap.size, 2, none⟩ = some (.slice ah s.hints.length kh) ∧ wr.cell? ⟨w.heap.size, 3, none⟩ = some (.slice ac s.cons.length kc) ∧ (s.cons.drop k).all (conW (varsN s)) = s.cons.all (conW (varsN s))) (fun i _ => s.cons.length - (intOf i).toNat)
     case atStart => exact ⟨0, Nat.zero_le _, rfl, be, by omega, cI, cO, cH, cC, rfl⟩
     case round =>
      clear cI cO cH cC
      obtain ⟨k, hk, rfl, be, zz, cI, cO, cH, cC, hq⟩ := hrel
      have HQ := Lib.hid hq
      clear hq
      by_cases hlt : k < s.cons.length
      ·obtain ⟨b, off, va, vb, vc, rfl, l1, m1, c0, c1, c2, ta, tb, tc⟩ := (tC.keep be hw).at hlt
       obtain ⟨x, kx, rfl, lx, bx⟩ := ta.shape
       obtain ⟨y, ky, rfl, ly, by'⟩ := tb.shape
       obtain ⟨z, kz, rfl, lz, bz'⟩ := tc.shape
       have bl : b < wr.heap.size := World.block_lt_of_cell? _ _ c0
       have w0 : 0 ≤ 1 + s.ins + (s.hints.length : Int) := by omega
       cases hh : conW (varsN s) s.cons[k]
       ·have E := Lib.hid (sysOk_cons (HQ.out.symm.trans (all_stop hlt hh)))
        have HH : Hid (conW (1 + s.ins + s.hints.length) s.cons[k] = false) := Lib.hid hh
        clear hh HQ
        go_wp2_with fail
        have dp4 : Below wr.heap.size wr wr.drew := (Below.refl _ _).drew
        have zdp4 : wr.heap.size ≤ wr.drew.heap.size := Nat.le_refl _
        have zep4 : wr.drew.heap.size ≤ wr.heap.size := Nat.le_refl _
        have gI : wr.drew.cell? ⟨w.heap.size, 0, none⟩ = some (.int .i64 s.ins) := cell_keep dp4 cI
        have gO : wr.drew.cell? ⟨w.heap.size, 1, none⟩ = some (.slice ao s.outs.length ko) := cell_keep dp4 cO
        have gH : wr.drew.cell? ⟨w.heap.size, 2, none⟩ = some (.slice ah s.hints.length kh) := cell_keep dp4 cH
        have gC : wr.drew.cell? ⟨w.heap.size, 3, none⟩ = some (.slice (some ⟨b, off, none⟩) s.cons.length kc) := cell_keep dp4 cC
        have g0 : wr.drew.cell? ⟨b, off + k * 3, none⟩ = some (.slice x s.cons[k].a.length kx) := cell_keep dp4 c0
        have g1 : wr.drew.cell? ⟨b, off + k * 3 + 1, none⟩ = some (.slice y s.cons[k].b.length ky) := cell_keep dp4 c1
        have g2 : wr.drew.cell? ⟨b, off + k * 3 + 2, none⟩ = some (.slice z s.cons[k].c.length kz) := cell_keep dp4 c2
        have uA := ta.keep dp4 (by omega)
        have uB := tb.keep dp4 (by omega)
        have uD := tc.keep dp4 (by omega)
        go_region_held3 (fun w' => w'.cell? ⟨w.heap.size, 0, none⟩ = some (.int .i64 s.ins) ∧ w'.cell? ⟨w.heap.size, 1, none⟩ = some (.slice ao s.outs.length ko) ∧ w'.cell? ⟨w.heap.size, 2, none⟩ = some (.slice ah s.hints.length kh) ∧ w'.cell? ⟨w.heap.size, 3, none⟩ = some (.slice (some ⟨b, off, none⟩) s.cons.length kc) ∧ w'.cell? ⟨b, off + k * 3, none⟩ = some (.slice x s.cons[k].a.length kx) ∧ w'.cell? ⟨b, off + k * 3 + 1, none⟩ = some (.slice y s.cons[k].b.length ky) ∧ w'.cell? ⟨b, off + k * 3 + 2, none⟩ = some (.slice z s.cons[k].c.length kz)) (first | exact ⟨gI, gO, gH, gC, g0, g1, g2⟩ | exact ⟨cell_keep j1 gI, cell_keep j1 gO, cell_keep j1 gH, cell_keep j1 gC, cell_keep j1 g0, cell_keep j1 g1, cell_keep j1 g2⟩ | exact ⟨cell_keep j2 (cell_keep j1 gI), cell_keep j2 (cell_keep j1 gO), cell_keep j2 (cell_keep j1 gH), cell_keep j2 (cell_keep j1 gC), cell_keep j2 (cell_keep j1 g0), cell_keep j2 (cell_keep j1 g1), cell_keep j2 (cell_keep j1 g2)⟩)
         (first
          | (go_at_call 57; refine (l3vars_any s _ _ _ _ _ _ wr.drew h1 h2 nh).mono ?_; rintro e v1 ⟨rfl, j1⟩; have s1 := j1.size)
          | (go_at_call 61; refine (l3con_any o l h _ _ _ s.cons[k] (1 + s.ins + s.hints.length) v1 (uA.keep j1 (by omega)) (uB.keep j1 (by omega)) (uD.keep j1 (by omega)) (by omega) w0 (by omega)).mono ?_; rw [HH.out]; rintro e v2 ⟨rfl, j2⟩))
        have s1 := j1.size
        have s2 := j2.size
        have bz : Below w.heap.size w v2 := (((be.trans (dp4.mono (by omega))).trans (j1.mono (by omega))).trans (j2.mono (by omega)))
        have kI := cell_keep j2 (cell_keep j1 (gI))
        have kO := cell_keep j2 (cell_keep j1 (gO))
        have kH := cell_keep j2 (cell_keep j1 (gH))
        have kC := cell_keep j2 (cell_keep j1 (gC))
        clear gI gO gH gC g0 g1 g2 uA uB uD
        go_wp2_with fail
        go_ret
        exact ⟨ret_bool E.out.symm, bz⟩
       have E := Lib.hid ((all_step hlt hh).symm.trans HQ.out)
       have HH : Hid (conW (1 + s.ins + s.hints.length) s.cons[k] = true) := Lib.hid hh
       clear hh HQ
       go_wp2_with fail
       have dq4 : Below wr.heap.size wr wr.drew := (Below.refl _ _).drew
       have zdq4 : wr.heap.size ≤ wr.drew.heap.size := Nat.le_refl _
       have zeq4 : wr.drew.heap.size ≤ wr.heap.size := Nat.le_refl _
       have gI : wr.drew.cell? ⟨w.heap.size, 0, none⟩ = some (.int .i64 s.ins) := cell_keep dq4 cI
       have gO : wr.drew.cell? ⟨w.heap.size, 1, none⟩ = some (.slice ao s.outs.length ko) := cell_keep dq4 cO
       have gH : wr.drew.cell? ⟨w.heap.size, 2, none⟩ = some (.slice ah s.hints.length kh) := cell_keep dq4 cH
       have gC : wr.drew.cell? ⟨w.heap.size, 3, none⟩ = some (.slice (some ⟨b, off, none⟩) s.cons.length kc) := cell_keep dq4 cC
       have g0 : wr.drew.cell? ⟨b, off + k * 3, none⟩ = some (.slice x s.cons[k].a.length kx) := cell_keep dq4 c0
       have g1 : wr.drew.cell? ⟨b, off + k * 3 + 1, none⟩ = some (.slice y s.cons[k].b.length ky) := cell_keep dq4 c1
       have g2 : wr.drew.cell? ⟨b, off + k * 3 + 2, none⟩ = some (.slice z s.cons[k].c.length kz) := cell_keep dq4 c2
       have uA := ta.keep dq4 (by omega)
       have uB := tb.keep dq4 (by omega)
       have uD := tc.keep dq4 (by omega)
       go_region_held3 (fun w' => w'.cell? ⟨w.heap.size, 0, none⟩ = some (.int .i64 s.ins) ∧ w'.cell? ⟨w.heap.size, 1, none⟩ = some (.slice ao s.outs.length ko) ∧ w'.cell? ⟨w.heap.size, 2, none⟩ = some (.slice ah s.hints.length kh) ∧ w'.cell? ⟨w.heap.size, 3, none⟩ = some (.slice (some ⟨b, off, none⟩) s.cons.length kc) ∧ w'.cell? ⟨b, off + k * 3, none⟩ = some (.slice x s.cons[k].a.length kx) ∧ w'.cell? ⟨b, off + k * 3 + 1, none⟩ = some (.slice y s.cons[k].b.length ky) ∧ w'.cell? ⟨b, off + k * 3 + 2, none⟩ = some (.slice z s.cons[k].c.length kz)) (first | exact ⟨gI, gO, gH, gC, g0, g1, g2⟩ | exact ⟨cell_keep j1 gI, cell_keep j1 gO, cell_keep j1 gH, cell_keep j1 gC, cell_keep j1 g0, cell_keep j1 g1, cell_keep j1 g2⟩ | exact ⟨cell_keep j2 (cell_keep j1 gI), cell_keep j2 (cell_keep j1 gO), cell_keep j2 (cell_keep j1 gH), cell_keep j2 (cell_keep j1 gC), cell_keep j2 (cell_keep j1 g0), cell_keep j2 (cell_keep j1 g1), cell_keep j2 (cell_keep j1 g2)⟩)
        (first
         | (go_at_call 57; refine (l3vars_any s _ _ _ _ _ _ wr.drew h1 h2 nh).mono ?_; rintro e v1 ⟨rfl, j1⟩; have s1 := j1.size)
         | (go_at_call 61; refine (l3con_any o l h _ _ _ s.cons[k] (1 + s.ins + s.hints.length) v1 (uA.keep j1 (by omega)) (uB.keep j1 (by omega)) (uD.keep j1 (by omega)) (by omega) w0 (by omega)).mono ?_; rw [HH.out]; rintro e v2 ⟨rfl, j2⟩))
       have s1 := j1.size
       have s2 := j2.size
       have bz : Below w.heap.size w v2 := (((be.trans (dq4.mono (by omega))).trans (j1.mono (by omega))).trans (j2.mono (by omega)))
       have kI := cell_keep j2 (cell_keep j1 (gI))
       have kO := cell_keep j2 (cell_keep j1 (gO))
       have kH := cell_keep j2 (cell_keep j1 (gH))
       have kC := cell_keep j2 (cell_keep j1 (gC))
       clear gI gO gH gC g0 g1 g2 uA uB uD
       go_wp2_with fail
       go_roundw
       case rel => exact ⟨k + 1, by omega, by go_num, bz, by omega, kI, kO, kH, kC, E.out⟩
       case measure => simp [intOf]; omega
      ·have HC : Hid (consB (varsN s) s.cons = true) := Lib.hid (HQ.out.symm.trans (by rw [List.drop_eq_nil_of_le (by omega)]; rfl))
       clear HQ
       have HR := Lib.hid (sysOk_yes hl HB.out HO.out HC.out)
       go_wp2_with fail
       go_ret
       exact ⟨ret_bool HR.out.symm, be⟩
end Go.Proofs.YthipgpbapdambaaGreat.L
