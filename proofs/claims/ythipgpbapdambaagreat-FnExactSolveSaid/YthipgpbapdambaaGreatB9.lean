/- B9: Holds Check -/
import Derived.Test.YthipgpbapdambaaGreatB8
import Derived.Test.YthipgpbapdambaaGreatB8
set_option linter.unusedVariables false
set_option linter.unusedSimpArgs false
/- Whether constraints and systems hold: the program's functions and their models. -/
namespace Go.Proofs.YthipgpbapdambaaGreat.L
open Go.RowKit Go.Proofs.YthipgpbapdambaaGreat.S
set_option linter.unusedVariables false
set_option linter.unusedSimpArgs false

theorem l2val_any (o1 l1 h1 va ts) (lim : Nat) (v : Value) (xs : List Int) (w : World) (t1 : Terms o1 l1 h1 w va ts) (hw1 : h1 ≤ w.heap.size) (t2 : Ints lim w v xs) (hl : lim ≤ w.heap.size) (ha : isAsg xs = true) (hin : linW xs.length ts = true) :
  Calls Tryz.prog 66 #[.agg #[va], v] w fun e w' => e = .returned (.int .i64 (lval xs ts)) ∧ Below w.heap.size w w' :=
 l2value_any o1 l1 h1 va ts lim v xs w t1 hw1 t2 hl (linW_within' hin).1 ha (linW_within' hin).2

set_option maxRecDepth 100000 in
set_option maxHeartbeats 3200000 in
theorem holdsFor_any (o l h va vb vc) (x : ConC) (lim : Nat) (v : Value) (xs : List Int) (w : World) (ta : Terms o l h w va x.a) (tb : Terms o l h w vb x.b) (tc : Terms o l h w vc x.c) (hw : h ≤ w.heap.size) (ti : Ints lim w v xs) (hl : lim ≤ w.heap.size) (ha : isAsg xs = true) (hc : conW xs.length x = true) :
  Calls Tryz.prog 68 #[.agg #[va, vb, vc], v] w fun e w' => e = .returned (.bool (holdsB xs x)) ∧ Below w.heap.size w w' := by
 obtain ⟨ga, gb, gc⟩ := conW_parts hc
 obtain ⟨aa, ka, rfl, laa, baa⟩ := ta.shape
 obtain ⟨ab, kb, rfl, lab, bab⟩ := tb.shape
 obtain ⟨ac, kc, rfl, lac, bac⟩ := tc.shape
 obtain ⟨ai, ki, rfl, lai, bai⟩ := ti.shape
 have HA := Lib.hid ha
 have HGA := Lib.hid ga
 have HGB := Lib.hid gb
 have HGC := Lib.hid gc
 clear ha hc ga gb gc
 obtain ⟨p0, p1⟩ := lval_bd xs x.a
 obtain ⟨q0, q1⟩ := lval_bd xs x.b
 go_enter Tryz.func68, Tryz.ntmps68
 go_wp2_with fail
 refine name_wp fun w1 hw1 => ?_
 have b1 : Below w.heap.size w w1 := by rw [hw1]; (repeat (with_reducible first | exact bR _ _ | assumption | refine bD ?_ | refine bN ?_ _ | refine bA ?_ _ | refine bS ?_ _))
 have z1 : w.heap.size + 1 ≤ w1.heap.size := by rw [hw1]; simp
 have e1 : Below w.heap.size w w1 := by rw [hw1]; (repeat (with_reducible first | exact bR _ _ | assumption | refine bD ?_ | refine bN ?_ _ | refine bA ?_ _ | refine bS ?_ _))
 have ca1 : w1.cell? ⟨w.heap.size, 0, none⟩ = some (.slice aa x.a.length ka) := by rw [hw1]; first | (simp; done) | go_simp
 have cb1 : w1.cell? ⟨w.heap.size, 1, none⟩ = some (.slice ab x.b.length kb) := by rw [hw1]; first | (simp; done) | go_simp
 have cc1 : w1.cell? ⟨w.heap.size, 2, none⟩ = some (.slice ac x.c.length kc) := by rw [hw1]; first | (simp; done) | go_simp
 have ta1 := ta.keep e1 (by omega)
 have tb1 := tb.keep e1 (by omega)
 have tc1 := tc.keep e1 (by omega)
 have ti1 := ti.keep e1 (by omega)
 clear hw1
 have dd : Below w1.heap.size w1 w1.drew := (Below.refl _ _).drew
 have zd : w1.heap.size ≤ w1.drew.heap.size := Nat.le_refl _
 have ze : w1.drew.heap.size ≤ w1.heap.size := Nat.le_refl _
 have ga : w1.drew.cell? ⟨w.heap.size, 0, none⟩ = some (.slice aa x.a.length ka) := cell_keep dd ca1
 have gb : w1.drew.cell? ⟨w.heap.size, 1, none⟩ = some (.slice ab x.b.length kb) := cell_keep dd cb1
 have gc : w1.drew.cell? ⟨w.heap.size, 2, none⟩ = some (.slice ac x.c.length kc) := cell_keep dd cc1
 have ua := ta1.keep dd (by omega)
 have ub := tb1.keep dd (by omega)
 have uc := tc1.keep dd (by omega)
 have ui := ti1.keep dd (by omega)
 go_region_held3 (fun w' => w'.cell? ⟨w.heap.size, 0, none⟩ = some (.slice aa x.a.length ka) ∧ w'.cell? ⟨w.heap.size, 1, none⟩ = some (.slice ab x.b.length kb) ∧ w'.cell? ⟨w.heap.size, 2, none⟩ = some (.slice ac x.c.length kc)) (first | exact ⟨ga, gb, gc⟩ | exact ⟨cell_keep j1 (ga), cell_keep j1 (gb), cell_keep j1 (gc)⟩ | exact ⟨cell_keep j2 (cell_keep j1 (ga)), cell_keep j2 (cell_keep j1 (gb)), cell_keep j2 (cell_keep j1 (gc))⟩ | exact ⟨cell_keep j3 (cell_keep j2 (cell_keep j1 (ga))), cell_keep j3 (cell_keep j2 (cell_keep j1 (gb))), cell_keep j3 (cell_keep j2 (cell_keep j1 (gc)))⟩)
  (first
   | (go_at_call_of 102 (Value.agg #[Value.slice aa x.a.length ka]); refine (valueFor_any o l h _ x.a lim _ xs w1.drew ua (by omega) ui (by omega) HA.out HGA.out).mono ?_; rintro e v1 ⟨rfl, j1⟩; have s1 := j1.size)
   | (go_at_call_of 102 (Value.agg #[Value.slice ab x.b.length kb]); refine (valueFor_any o l h _ x.b lim _ xs v1 (ub.keep j1 (by omega)) (by omega) (ui.keep j1 (by omega)) (by omega) HA.out HGB.out).mono ?_; rintro e v2 ⟨rfl, j2⟩; have s2 := j2.size)
   | (go_at_call 104; refine (times_any (lval xs x.a) (lval xs x.b) v2 p0 p1 q0 q1).mono ?_; rintro e v2' ⟨rfl, rfl⟩)
   | (go_at_call_of 102 (Value.agg #[Value.slice ac x.c.length kc]); refine (valueFor_any o l h _ x.c lim _ xs v2 ((uc.keep j1 (by omega)).keep j2 (by omega)) (by omega) ((ui.keep j1 (by omega)).keep j2 (by omega)) (by omega) HA.out HGC.out).mono ?_; rintro e v3 ⟨rfl, j3⟩; have s3 := j3.size))
 have bz : Below w.heap.size w v3 := (((b1.trans (dd.mono (by omega))).trans (j1.mono (by omega))).trans (j2.mono (by omega))).trans (j3.mono (by omega))
 go_wp2_with fail
 go_ret
 exact ⟨ret_bool rfl, bz⟩

set_option maxRecDepth 100000 in
set_option maxHeartbeats 3200000 in
theorem l3holds_any (o l h va vb vc) (x : ConC) (lim : Nat) (v : Value) (xs : List Int) (w : World) (ta : Terms o l h w va x.a) (tb : Terms o l h w vb x.b) (tc : Terms o l h w vc x.c) (hw : h ≤ w.heap.size) (ti : Ints lim w v xs) (hl : lim ≤ w.heap.size) (ha : isAsg xs = true) (hc : conW xs.length x = true) :
  Calls Tryz.prog 83 #[.agg #[va, vb, vc], v] w fun e w' => e = .returned (.bool (holdsB xs x)) ∧ Below w.heap.size w w' := by
 obtain ⟨ga, gb, gc⟩ := conW_parts hc
 obtain ⟨aa, ka, rfl, laa, baa⟩ := ta.shape
 obtain ⟨ab, kb, rfl, lab, bab⟩ := tb.shape
 obtain ⟨ac, kc, rfl, lac, bac⟩ := tc.shape
 obtain ⟨ai, ki, rfl, lai, bai⟩ := ti.shape
 have HA := Lib.hid ha
 have HGA := Lib.hid ga
 have HGB := Lib.hid gb
 have HGC := Lib.hid gc
 clear ha hc ga gb gc
 obtain ⟨p0, p1⟩ := lval_bd xs x.a
 obtain ⟨q0, q1⟩ := lval_bd xs x.b
 go_enter Tryz.func83, Tryz.ntmps83
 go_wp2_with fail
 refine name_wp fun w1 hw1 => ?_
 have b1 : Below w.heap.size w w1 := by rw [hw1]; (repeat (with_reducible first | exact bR _ _ | assumption | refine bD ?_ | refine bN ?_ _ | refine bA ?_ _ | refine bS ?_ _))
 have z1 : w.heap.size + 1 ≤ w1.heap.size := by rw [hw1]; simp
 have e1 : Below w.heap.size w w1 := by rw [hw1]; (repeat (with_reducible first | exact bR _ _ | assumption | refine bD ?_ | refine bN ?_ _ | refine bA ?_ _ | refine bS ?_ _))
 have ca1 : w1.cell? ⟨w.heap.size, 0, none⟩ = some (.slice aa x.a.length ka) := by rw [hw1]; first | (simp; done) | go_simp
 have cb1 : w1.cell? ⟨w.heap.size, 1, none⟩ = some (.slice ab x.b.length kb) := by rw [hw1]; first | (simp; done) | go_simp
 have cc1 : w1.cell? ⟨w.heap.size, 2, none⟩ = some (.slice ac x.c.length kc) := by rw [hw1]; first | (simp; done) | go_simp
 have ta1 := ta.keep e1 (by omega)
 have tb1 := tb.keep e1 (by omega)
 have tc1 := tc.keep e1 (by omega)
 have ti1 := ti.keep e1 (by omega)
 clear hw1
 have dd : Below w1.heap.size w1 w1.drew := (Below.refl _ _).drew
 have zd : w1.heap.size ≤ w1.drew.heap.size := Nat.le_refl _
 have ze : w1.drew.heap.size ≤ w1.heap.size := Nat.le_refl _
 have ga : w1.drew.cell? ⟨w.heap.size, 0, none⟩ = some (.slice aa x.a.length ka) := cell_keep dd ca1
 have gb : w1.drew.cell? ⟨w.heap.size, 1, none⟩ = some (.slice ab x.b.length kb) := cell_keep dd cb1
 have gc : w1.drew.cell? ⟨w.heap.size, 2, none⟩ = some (.slice ac x.c.length kc) := cell_keep dd cc1
 have ua := ta1.keep dd (by omega)
 have ub := tb1.keep dd (by omega)
 have uc := tc1.keep dd (by omega)
 have ui := ti1.keep dd (by omega)
 go_region_held3 (fun w' => w'.cell? ⟨w.heap.size, 0, none⟩ = some (.slice aa x.a.length ka) ∧ w'.cell? ⟨w.heap.size, 1, none⟩ = some (.slice ab x.b.length kb) ∧ w'.cell? ⟨w.heap.size, 2, none⟩ = some (.slice ac x.c.length kc)) (first | exact ⟨ga, gb, gc⟩ | exact ⟨cell_keep j1 (ga), cell_keep j1 (gb), cell_keep j1 (gc)⟩ | exact ⟨cell_keep j2 (cell_keep j1 (ga)), cell_keep j2 (cell_keep j1 (gb)), cell_keep j2 (cell_keep j1 (gc))⟩ | exact ⟨cell_keep j3 (cell_keep j2 (cell_keep j1 (ga))), cell_keep j3 (cell_keep j2 (cell_keep j1 (gb))), cell_keep j3 (cell_keep j2 (cell_keep j1 (gc)))⟩)
  (first
   | (go_at_call_of 66 (Value.agg #[Value.slice aa x.a.length ka]); refine (l2val_any o l h _ x.a lim _ xs w1.drew ua (by omega) ui (by omega) HA.out HGA.out).mono ?_; rintro e v1 ⟨rfl, j1⟩; have s1 := j1.size)
   | (go_at_call_of 66 (Value.agg #[Value.slice ab x.b.length kb]); refine (l2val_any o l h _ x.b lim _ xs v1 (ub.keep j1 (by omega)) (by omega) (ui.keep j1 (by omega)) (by omega) HA.out HGB.out).mono ?_; rintro e v2 ⟨rfl, j2⟩; have s2 := j2.size)
   | (go_at_call 77; refine (l1mul_any (lval xs x.a) (lval xs x.b) v2 p0 p1 q0 q1).mono ?_; rintro e v2' ⟨rfl, rfl⟩)
   | (go_at_call_of 66 (Value.agg #[Value.slice ac x.c.length kc]); refine (l2val_any o l h _ x.c lim _ xs v2 ((uc.keep j1 (by omega)).keep j2 (by omega)) (by omega) ((ui.keep j1 (by omega)).keep j2 (by omega)) (by omega) HA.out HGC.out).mono ?_; rintro e v3 ⟨rfl, j3⟩; have s3 := j3.size))
 have bz : Below w.heap.size w v3 := (((b1.trans (dd.mono (by omega))).trans (j1.mono (by omega))).trans (j2.mono (by omega))).trans (j3.mono (by omega))
 go_wp2_with fail
 go_ret
 exact ⟨ret_bool rfl, bz⟩

set_option maxRecDepth 100000 in
set_option maxHeartbeats 3200000 in
theorem hold_impl (o l h va vb vc) (x : ConC) (lim : Nat) (v : Value) (xs : List Int) (w : World) (ta : Terms o l h w va x.a) (tb : Terms o l h w vb x.b) (tc : Terms o l h w vc x.c) (hw : h ≤ w.heap.size) (ti : Ints lim w v xs) (hl : lim ≤ w.heap.size) (ni : xs.length ≤ 1048576) :
  Calls Tryz.prog 22 #[.agg #[va, vb, vc], v] w fun e w' => e = .returned (.bool (conHold xs x)) ∧ Below w.heap.size w w' := by
 obtain ⟨aa, ka, rfl, laa, baa⟩ := ta.shape
 obtain ⟨ab, kb, rfl, lab, bab⟩ := tb.shape
 obtain ⟨ac, kc, rfl, lac, bac⟩ := tc.shape
 obtain ⟨ai, ki, rfl, lai, bai⟩ := ti.shape
 cases h1 : isAsg xs
 ·have HR : Hid (conHold xs x = false) := Lib.hid (by simp [conHold, h1])
  have H1 := Lib.hid h1
  clear h1
  go_enter Tryz.func22, Tryz.ntmps22
  go_wp2_with fail
  refine name_call fun w1 hw1 => ?_
  have b1 : Below w.heap.size w w1 := by rw [hw1]; (repeat (with_reducible first | exact bR _ _ | assumption | refine bD ?_ | refine bN ?_ _ | refine bA ?_ _ | refine bS ?_ _))
  have z1 : w.heap.size + 1 ≤ w1.heap.size := by rw [hw1]; simp
  have e1 : Below w.heap.size w w1 := by rw [hw1]; (repeat (with_reducible first | exact bR _ _ | assumption | refine bD ?_ | refine bN ?_ _ | refine bA ?_ _ | refine bS ?_ _))
  have ca1 : w1.cell? ⟨w.heap.size, 0, none⟩ = some (.slice aa x.a.length ka) := by rw [hw1]; first | (simp; done) | go_simp
  have cb1 : w1.cell? ⟨w.heap.size, 1, none⟩ = some (.slice ab x.b.length kb) := by rw [hw1]; first | (simp; done) | go_simp
  have cc1 : w1.cell? ⟨w.heap.size, 2, none⟩ = some (.slice ac x.c.length kc) := by rw [hw1]; first | (simp; done) | go_simp
  have ta1 := ta.keep e1 (by omega)
  have tb1 := tb.keep e1 (by omega)
  have tc1 := tc.keep e1 (by omega)
  have ti1 := ti.keep e1 (by omega)
  clear hw1
  refine (asg_impl lim _ xs _ ti1).mono ?_; rw [H1.out]; rintro e w' ⟨rfl, rfl⟩
  go_wp2_with fail
  go_ret
  exact ⟨ret_bool HR.out.symm, b1⟩
 obtain ⟨nx, -⟩ := asg_fits h1
 cases h2 : conW xs.length x
 ·have HR : Hid (conHold xs x = false) := Lib.hid (by simp [conHold, h2])
  have H1 := Lib.hid h1
  have H2 := Lib.hid h2
  clear h1 h2
  go_enter Tryz.func22, Tryz.ntmps22
  go_wp2_with fail
  refine name_call fun w1 hw1 => ?_
  have b1 : Below w.heap.size w w1 := by rw [hw1]; (repeat (with_reducible first | exact bR _ _ | assumption | refine bD ?_ | refine bN ?_ _ | refine bA ?_ _ | refine bS ?_ _))
  have z1 : w.heap.size + 1 ≤ w1.heap.size := by rw [hw1]; simp
  have e1 : Below w.heap.size w w1 := by rw [hw1]; (repeat (with_reducible first | exact bR _ _ | assumption | refine bD ?_ | refine bN ?_ _ | refine bA ?_ _ | refine bS ?_ _))
  have ca1 : w1.cell? ⟨w.heap.size, 0, none⟩ = some (.slice aa x.a.length ka) := by rw [hw1]; first | (simp; done) | go_simp
  have cb1 : w1.cell? ⟨w.heap.size, 1, none⟩ = some (.slice ab x.b.length kb) := by rw [hw1]; first | (simp; done) | go_simp
  have cc1 : w1.cell? ⟨w.heap.size, 2, none⟩ = some (.slice ac x.c.length kc) := by rw [hw1]; first | (simp; done) | go_simp
  have ta1 := ta.keep e1 (by omega)
  have tb1 := tb.keep e1 (by omega)
  have tc1 := tc.keep e1 (by omega)
  have ti1 := ti.keep e1 (by omega)
  clear hw1
  refine (asg_impl lim _ xs _ ti1).mono ?_; rw [H1.out]; rintro e w' ⟨rfl, rfl⟩
  have lca1 : w.heap.size < w1.heap.size := World.block_lt_of_cell? _ _ ca1
  go_wp2_with fail
  refine name_call fun w2 hw2 => ?_
  have b2 : Below w.heap.size w w2 := by rw [hw2]; (repeat (with_reducible first | exact bR _ _ | assumption | refine bD ?_ | refine bN ?_ _ | refine bA ?_ _ | refine bS ?_ _))
  have z2 : w1.heap.size + 0 ≤ w2.heap.size := by rw [hw2]; simp
  have e2 : Below w1.heap.size w1 w2 := by rw [hw2]; (repeat (with_reducible first | exact bR _ _ | assumption | refine bD ?_ | refine bN ?_ _ | refine bA ?_ _ | refine bS ?_ _))
  have ca2 := cell_keep e2 ca1
  have cb2 := cell_keep e2 cb1
  have cc2 := cell_keep e2 cc1
  have ta2 := ta1.keep e2 (by omega)
  have tb2 := tb1.keep e2 (by omega)
  have tc2 := tc1.keep e2 (by omega)
  have ti2 := ti1.keep e2 (by omega)
  clear hw2 lca1 ca1 cb1 cc1 ta1 tb1 tc1 ti1
  refine (conWithin_any o l h _ _ _ x xs.length _ ta2 tb2 tc2 (by omega)).mono ?_; rw [H2.out]; rintro e w3 ⟨rfl, f3⟩
  have b3 := b2.trans (f3.mono (by omega))
  have z3 := f3.size
  have ca3 := cell_keep f3 ca2
  have cb3 := cell_keep f3 cb2
  have cc3 := cell_keep f3 cc2
  have ta3 := ta2.keep f3 (by omega)
  have tb3 := tb2.keep f3 (by omega)
  have tc3 := tc2.keep f3 (by omega)
  have ti3 := ti2.keep f3 (by omega)
  clear ca2 cb2 cc2 ta2 tb2 tc2 ti2
  go_wp2_with fail
  go_ret
  exact ⟨ret_bool HR.out.symm, b3⟩
 ·have HR : Hid (conHold xs x = holdsB xs x) := Lib.hid (by simp [conHold, h1, h2])
  have H1 := Lib.hid h1
  have H2 := Lib.hid h2
  clear h1 h2
  go_enter Tryz.func22, Tryz.ntmps22
  go_wp2_with fail
  refine name_call fun w1 hw1 => ?_
  have b1 : Below w.heap.size w w1 := by rw [hw1]; (repeat (with_reducible first | exact bR _ _ | assumption | refine bD ?_ | refine bN ?_ _ | refine bA ?_ _ | refine bS ?_ _))
  have z1 : w.heap.size + 1 ≤ w1.heap.size := by rw [hw1]; simp
  have e1 : Below w.heap.size w w1 := by rw [hw1]; (repeat (with_reducible first | exact bR _ _ | assumption | refine bD ?_ | refine bN ?_ _ | refine bA ?_ _ | refine bS ?_ _))
  have ca1 : w1.cell? ⟨w.heap.size, 0, none⟩ = some (.slice aa x.a.length ka) := by rw [hw1]; first | (simp; done) | go_simp
  have cb1 : w1.cell? ⟨w.heap.size, 1, none⟩ = some (.slice ab x.b.length kb) := by rw [hw1]; first | (simp; done) | go_simp
  have cc1 : w1.cell? ⟨w.heap.size, 2, none⟩ = some (.slice ac x.c.length kc) := by rw [hw1]; first | (simp; done) | go_simp
  have ta1 := ta.keep e1 (by omega)
  have tb1 := tb.keep e1 (by omega)
  have tc1 := tc.keep e1 (by omega)
  have ti1 := ti.keep e1 (by omega)
  clear hw1
  refine (asg_impl lim _ xs _ ti1).mono ?_; rw [H1.out]; rintro e w' ⟨rfl, rfl⟩
  have lca1 : w.heap.size < w1.heap.size := World.block_lt_of_cell? _ _ ca1
  go_wp2_with fail
  refine name_call fun w2 hw2 => ?_
  have b2 : Below w.heap.size w w2 := by rw [hw2]; (repeat (with_reducible first | exact bR _ _ | assumption | refine bD ?_ | refine bN ?_ _ | refine bA ?_ _ | refine bS ?_ _))
  have z2 : w1.heap.size + 0 ≤ w2.heap.size := by rw [hw2]; simp
  have e2 : Below w1.heap.size w1 w2 := by rw [hw2]; (repeat (with_reducible first | exact bR _ _ | assumption | refine bD ?_ | refine bN ?_ _ | refine bA ?_ _ | refine bS ?_ _))
  have ca2 := cell_keep e2 ca1
  have cb2 := cell_keep e2 cb1
  have cc2 := cell_keep e2 cc1
  have ta2 := ta1.keep e2 (by omega)
  have tb2 := tb1.keep e2 (by omega)
  have tc2 := tc1.keep e2 (by omega)
  have ti2 := ti1.keep e2 (by omega)
  clear hw2 lca1 ca1 cb1 cc1 ta1 tb1 tc1 ti1
  refine (conWithin_any o l h _ _ _ x xs.length _ ta2 tb2 tc2 (by omega)).mono ?_; rw [H2.out]; rintro e w3 ⟨rfl, f3⟩
  have b3 := b2.trans (f3.mono (by omega))
  have z3 := f3.size
  have ca3 := cell_keep f3 ca2
  have cb3 := cell_keep f3 cb2
  have cc3 := cell_keep f3 cc2
  have ta3 := ta2.keep f3 (by omega)
  have tb3 := tb2.keep f3 (by omega)
  have tc3 := tc2.keep f3 (by omega)
  have ti3 := ti2.keep f3 (by omega)
  clear ca2 cb2 cc2 ta2 tb2 tc2 ti2
  have lca3 : w.heap.size < w3.heap.size := World.block_lt_of_cell? _ _ ca3
  go_wp2_with fail
  refine name_call fun w4 hw4 => ?_
  have b4 : Below w.heap.size w w4 := by rw [hw4]; (repeat (with_reducible first | exact bR _ _ | assumption | refine bD ?_ | refine bN ?_ _ | refine bA ?_ _ | refine bS ?_ _))
  have z4 : w3.heap.size + 0 ≤ w4.heap.size := by rw [hw4]; simp
  have e4 : Below w3.heap.size w3 w4 := by rw [hw4]; (repeat (with_reducible first | exact bR _ _ | assumption | refine bD ?_ | refine bN ?_ _ | refine bA ?_ _ | refine bS ?_ _))
  have ca4 := cell_keep e4 ca3
  have cb4 := cell_keep e4 cb3
  have cc4 := cell_keep e4 cc3
  have ta4 := ta3.keep e4 (by omega)
  have tb4 := tb3.keep e4 (by omega)
  have tc4 := tc3.keep e4 (by omega)
  have ti4 := ti3.keep e4 (by omega)
  clear hw4 lca3 ca3 cb3 cc3 ta3 tb3 tc3 ti3
  refine (holdsFor_any o l h _ _ _ x lim _ xs _ ta4 tb4 tc4 (by omega) ti4 (by omega) H1.out H2.out).mono ?_; rintro e w5 ⟨rfl, f5⟩
  have b5 := b4.trans (f5.mono (by omega))
  have z5 := f5.size
  have ca5 := cell_keep f5 ca4
  have cb5 := cell_keep f5 cb4
  have cc5 := cell_keep f5 cc4
  have ta5 := ta4.keep f5 (by omega)
  have tb5 := tb4.keep f5 (by omega)
  have tc5 := tc4.keep f5 (by omega)
  have ti5 := ti4.keep f5 (by omega)
  clear ca4 cb4 cc4 ta4 tb4 tc4 ti4
  go_wp2_with fail
  go_ret
  exact ⟨ret_bool HR.out.symm, b5⟩

end Go.Proofs.YthipgpbapdambaaGreat.L

/- Checks of systems: the program's functions and their models; counts of variables. -/
namespace Go.Proofs.YthipgpbapdambaaGreat.L
open Go.RowKit Go.Proofs.YthipgpbapdambaaGreat.S
set_option linter.unusedVariables false
set_option linter.unusedSimpArgs false

def allB (xs : List Int) (cs : List ConC) : Bool := cs.all (holdsB xs)
def checkB (s : SysC) (xs : List Int) : Bool := sysOk s && (decide ((xs.length : Int) = varsN s) && (isAsg xs && allB xs s.cons))
def varCount (s : SysC) : Int := if sysOk s = true then varsN s else -1

theorem sysOk_specb (o l h vi vo vh vc) (s : SysC) (w : World) (t : SysR o l h w vi vo vh vc s) (hw : h ≤ w.heap.size) (nh : s.hints.length ≤ 1048576) (no : s.outs.length ≤ 1048576) (nc : s.cons.length ≤ 1048576) (b : Bool) (hk : sysOk s = b) :
  Calls Tryz.prog 19 #[.agg #[vi, vo, vh, vc]] w fun e w' => e = .returned (.bool b) ∧ Below w.heap.size w w' := by
 have := sysOk_spec o l h vi vo vh vc s w t hw nh no nc
 rw [hk] at this; exact this
theorem sysOk_implb (o l h vi vo vh vc) (s : SysC) (w : World) (t : SysR o l h w vi vo vh vc s) (hw : h ≤ w.heap.size) (nh : s.hints.length ≤ 1048576) (no : s.outs.length ≤ 1048576) (nc : s.cons.length ≤ 1048576) (b : Bool) (hk : sysOk s = b) :
  Calls Tryz.prog 43 #[.agg #[vi, vo, vh, vc]] w fun e w' => e = .returned (.bool b) ∧ Below w.heap.size w w' := by
 have := sysOk_impl o l h vi vo vh vc s w t hw nh no nc
 rw [hk] at this; exact this
theorem sysOk_cons_in {s : SysC} (h : sysOk s = true) : ∀ c ∈ s.cons, conW (varsN s) c = true := by
 have h2 : consB (varsN s) s.cons = true := by
  cases hc : consB (varsN s) s.cons
  ·rw [sysOk_cons hc] at h; cases h
  ·rfl
 exact List.all_eq_true.1 h2
theorem sysOk_outs_in {s : SysC} (h : sysOk s = true) : ∀ c ∈ s.outs, linW (varsN s) c = true := by
 have h2 : outsB (varsN s) s.outs = true := by
  cases hc : outsB (varsN s) s.outs
  ·rw [sysOk_outs hc] at h; cases h
  ·rfl
 exact List.all_eq_true.1 h2

set_option maxRecDepth 100000 in
set_option maxHeartbeats 1600000 in
theorem varCount_impl (o l h vi vo vh vc) (s : SysC) (w : World) (t : SysR o l h w vi vo vh vc s) (hw : h ≤ w.heap.size) (nh : s.hints.length ≤ 1048576) (no : s.outs.length ≤ 1048576) (nc : s.cons.length ≤ 1048576) :
  Calls Tryz.prog 25 #[.agg #[vi, vo, vh, vc]] w fun e w' => e = .returned (.int .i64 (varCount s)) ∧ Below w.heap.size w w' := by
 obtain ⟨ao, ko, ah, kh, ac, kc, rfl, rfl, rfl, rfl, lo, bo, lh, bh, lc, bc, fi⟩ := t.shape
 cases hk : sysOk s
 ·have HR : Hid (varCount s = -1) := Lib.hid (if_neg (by rw [hk]; simp))
  have HK := Lib.hid hk
  clear hk
  rw [HR.out]
  go_enter Tryz.func25, Tryz.ntmps25
  go_wp2_with fail
  refine name_call fun w1 hw1 => ?_
  have b1 : Below w.heap.size w w1 := by rw [hw1]; (repeat (with_reducible first | exact bR _ _ | assumption | refine bD ?_ | refine bN ?_ _ | refine bA ?_ _ | refine bS ?_ _))
  have z1 : w.heap.size + 1 ≤ w1.heap.size := by rw [hw1]; simp
  have e1 : Below w.heap.size w w1 := by rw [hw1]; (repeat (with_reducible first | exact bR _ _ | assumption | refine bD ?_ | refine bN ?_ _ | refine bA ?_ _ | refine bS ?_ _))
  have cI1 : w1.cell? ⟨w.heap.size, 0, none⟩ = some (.int .i64 s.ins) := by rw [hw1]; first | (simp; done) | go_simp
  have cO1 : w1.cell? ⟨w.heap.size, 1, none⟩ = some (.slice ao s.outs.length ko) := by rw [hw1]; first | (simp; done) | go_simp
  have cH1 : w1.cell? ⟨w.heap.size, 2, none⟩ = some (.slice ah s.hints.length kh) := by rw [hw1]; first | (simp; done) | go_simp
  have cC1 : w1.cell? ⟨w.heap.size, 3, none⟩ = some (.slice ac s.cons.length kc) := by rw [hw1]; first | (simp; done) | go_simp
  have tS1 := t.keep e1 (by omega)
  clear hw1
  refine (sysOk_implb o l h _ _ _ _ s _ tS1 (by omega) nh no nc _ HK.out).mono ?_; rintro e w2 ⟨rfl, f2⟩
  have b2 := b1.trans (f2.mono (by omega))
  have z2 := f2.size
  have cI2 := cell_keep f2 cI1
  have cO2 := cell_keep f2 cO1
  have cH2 := cell_keep f2 cH1
  have cC2 := cell_keep f2 cC1
  have tS2 := tS1.keep f2 (by omega)
  clear cI1 cO1 cH1 cC1 tS1
  go_wp2_with fail
  go_ret
  exact ⟨rfl, b2⟩
 ·have HR : Hid (varCount s = 1 + s.ins + s.hints.length) := Lib.hid (if_pos hk)
  obtain ⟨h1, h2, h3, h4, h5⟩ := limB_facts (sysOk_limB hk)
  have HK := Lib.hid hk
  clear hk
  rw [HR.out]
  go_enter Tryz.func25, Tryz.ntmps25
  go_wp2_with fail
  refine name_call fun w1 hw1 => ?_
  have b1 : Below w.heap.size w w1 := by rw [hw1]; (repeat (with_reducible first | exact bR _ _ | assumption | refine bD ?_ | refine bN ?_ _ | refine bA ?_ _ | refine bS ?_ _))
  have z1 : w.heap.size + 1 ≤ w1.heap.size := by rw [hw1]; simp
  have e1 : Below w.heap.size w w1 := by rw [hw1]; (repeat (with_reducible first | exact bR _ _ | assumption | refine bD ?_ | refine bN ?_ _ | refine bA ?_ _ | refine bS ?_ _))
  have cI1 : w1.cell? ⟨w.heap.size, 0, none⟩ = some (.int .i64 s.ins) := by rw [hw1]; first | (simp; done) | go_simp
  have cO1 : w1.cell? ⟨w.heap.size, 1, none⟩ = some (.slice ao s.outs.length ko) := by rw [hw1]; first | (simp; done) | go_simp
  have cH1 : w1.cell? ⟨w.heap.size, 2, none⟩ = some (.slice ah s.hints.length kh) := by rw [hw1]; first | (simp; done) | go_simp
  have cC1 : w1.cell? ⟨w.heap.size, 3, none⟩ = some (.slice ac s.cons.length kc) := by rw [hw1]; first | (simp; done) | go_simp
  have tS1 := t.keep e1 (by omega)
  clear hw1
  refine (sysOk_implb o l h _ _ _ _ s _ tS1 (by omega) nh no nc _ HK.out).mono ?_; rintro e w2 ⟨rfl, f2⟩
  have b2 := b1.trans (f2.mono (by omega))
  have z2 := f2.size
  have cI2 := cell_keep f2 cI1
  have cO2 := cell_keep f2 cO1
  have cH2 := cell_keep f2 cH1
  have cC2 := cell_keep f2 cC1
  have tS2 := tS1.keep f2 (by omega)
  clear cI1 cO1 cH1 cC1 tS1
  have lcI2 : w.heap.size < w2.heap.size := World.block_lt_of_cell? _ _ cI2
  go_wp2_with fail
  refine name_call fun w3 hw3 => ?_
  have b3 : Below w.heap.size w w3 := by rw [hw3]; (repeat (with_reducible first | exact bR _ _ | assumption | refine bD ?_ | refine bN ?_ _ | refine bA ?_ _ | refine bS ?_ _))
  have z3 : w2.heap.size + 0 ≤ w3.heap.size := by rw [hw3]; simp
  have e3 : Below w2.heap.size w2 w3 := by rw [hw3]; (repeat (with_reducible first | exact bR _ _ | assumption | refine bD ?_ | refine bN ?_ _ | refine bA ?_ _ | refine bS ?_ _))
  have cI3 := cell_keep e3 cI2
  have cO3 := cell_keep e3 cO2
  have cH3 := cell_keep e3 cH2
  have cC3 := cell_keep e3 cC2
  have tS3 := tS2.keep e3 (by omega)
  clear hw3 lcI2 cI2 cO2 cH2 cC2 tS2
  refine (vars_any s _ _ _ _ _ _ _ h1 h2 nh).mono ?_; rintro e w4 ⟨rfl, f4⟩
  have b4 := b3.trans (f4.mono (by omega))
  have z4 := f4.size
  have cI4 := cell_keep f4 cI3
  have cO4 := cell_keep f4 cO3
  have cH4 := cell_keep f4 cH3
  have cC4 := cell_keep f4 cC3
  have tS4 := tS3.keep f4 (by omega)
  clear cI3 cO3 cH3 cC3 tS3
  go_wp2_with fail
  go_ret
  exact ⟨rfl, b4⟩

set_option maxRecDepth 100000 in
set_option maxHeartbeats 3200000 in
theorem sysHolds_any (o l h vi vo vh vc) (s : SysC) (lim : Nat) (v : Value) (xs : List Int) (w : World) (t : SysR o l h w vi vo vh vc s) (hw : h ≤ w.heap.size) (ti : Ints lim w v xs) (hl : lim ≤ w.heap.size) (ha : isAsg xs = true) (hc : ∀ c ∈ s.cons, conW xs.length c = true) :
  Calls Tryz.prog 46 #[.agg #[vi, vo, vh, vc], v] w fun e w' => e = .returned (.bool (allB xs s.cons)) ∧ Below w.heap.size w w' := by
 obtain ⟨tO, tH, tC⟩ := t.parts
 obtain ⟨ao, ko, ah, kh, ac, kc, rfl, rfl, rfl, rfl, lo, bo, lh, bh, lc, bc, fi⟩ := t.shape
 obtain ⟨ai, ki, rfl, lai, bai⟩ := ti.shape
 have HA := Lib.hid ha
 have HC := Lib.hid hc
 clear ha hc t
 go_enter Tryz.func46, Tryz.ntmps46
 go_wp2_with fail
 go_loopw [10] (fun i wr => ∃ k : Nat, k ≤ s.cons.length ∧ i = .int .i64 k ∧ Below w.heap.size w wr ∧ (s.cons.drop k).all (holdsB xs) = s.cons.all (holdsB xs)) (fun i _ => s.cons.length - (intOf i).toNat)
 case atStart => exact ⟨0, Nat.zero_le _, rfl, by (repeat (with_reducible first | exact bR _ _ | assumption | refine bD ?_ | refine bN ?_ _ | refine bA ?_ _ | refine bS ?_ _)), rfl⟩
 case round =>
  obtain ⟨k, hk, rfl, be, hq⟩ := hrel
  have HQ := Lib.hid hq
  clear hq
  have zz := be.size
  by_cases hlt : k < s.cons.length
  ·obtain ⟨b, off, va, vb, vc, rfl, l1, m1, c0, c1, c2, ta, tb, tc⟩ := (tC.keep be hw).at hlt
   obtain ⟨x, kx, rfl, lx, bx⟩ := ta.shape
   obtain ⟨y, ky, rfl, ly, by'⟩ := tb.shape
   obtain ⟨z, kz, rfl, lz, bz⟩ := tc.shape
   have ti' := ti.keep be hl
   have HW := Lib.hid (HC.out _ (List.getElem_mem hlt))
   cases hh : holdsB xs s.cons[k]
   ·have E : Hid (allB xs s.cons = false) := Lib.hid (HQ.out.symm.trans (all_stop hlt hh))
    have HH := Lib.hid hh
    clear hh HQ
    go_wp2_with fail
    refine name_call fun wp1 hwp1 => ?_
    have bp1 : Below w.heap.size w wp1 := by rw [hwp1]; (repeat (with_reducible first | exact bR _ _ | assumption | refine bD ?_ | refine bN ?_ _ | refine bA ?_ _ | refine bS ?_ _))
    have zp1 : wr.heap.size + 1 ≤ wp1.heap.size := by rw [hwp1]; simp
    have ep1 : Below wr.heap.size wr wp1 := by rw [hwp1]; (repeat (with_reducible first | exact bR _ _ | assumption | refine bD ?_ | refine bN ?_ _ | refine bA ?_ _ | refine bS ?_ _))
    have tAp1 := ta.keep ep1 (by omega)
    have tBp1 := tb.keep ep1 (by omega)
    have tCp1 := tc.keep ep1 (by omega)
    have tVp1 := ti'.keep ep1 (by omega)
    clear hwp1 ta tb tc ti'
    refine (holdsFor_any o l h _ _ _ s.cons[k] lim _ xs _ tAp1 tBp1 tCp1 (by omega) tVp1 (by omega) HA.out HW.out).mono ?_; rw [HH.out]; rintro e wp2 ⟨rfl, fp2⟩
    have bp2 := bp1.trans (fp2.mono (by omega))
    have zp2 := fp2.size
    have tAp2 := tAp1.keep fp2 (by omega)
    have tBp2 := tBp1.keep fp2 (by omega)
    have tCp2 := tCp1.keep fp2 (by omega)
    have tVp2 := tVp1.keep fp2 (by omega)
    clear tAp1 tBp1 tCp1 tVp1
    go_wp2_with fail
    go_ret
    exact ⟨ret_bool E.out.symm, bp2⟩
   have E := Lib.hid ((all_step hlt hh).symm.trans HQ.out)
   have HH := Lib.hid hh
   clear hh HQ
   go_wp2_with fail
   refine name_call fun wq1 hwq1 => ?_
   have bq1 : Below w.heap.size w wq1 := by rw [hwq1]; (repeat (with_reducible first | exact bR _ _ | assumption | refine bD ?_ | refine bN ?_ _ | refine bA ?_ _ | refine bS ?_ _))
   have zq1 : wr.heap.size + 1 ≤ wq1.heap.size := by rw [hwq1]; simp
   have eq1 : Below wr.heap.size wr wq1 := by rw [hwq1]; (repeat (with_reducible first | exact bR _ _ | assumption | refine bD ?_ | refine bN ?_ _ | refine bA ?_ _ | refine bS ?_ _))
   have tAq1 := ta.keep eq1 (by omega)
   have tBq1 := tb.keep eq1 (by omega)
   have tCq1 := tc.keep eq1 (by omega)
   have tVq1 := ti'.keep eq1 (by omega)
   clear hwq1 ta tb tc ti'
   refine (holdsFor_any o l h _ _ _ s.cons[k] lim _ xs _ tAq1 tBq1 tCq1 (by omega) tVq1 (by omega) HA.out HW.out).mono ?_; rw [HH.out]; rintro e wq2 ⟨rfl, fq2⟩
   have bq2 := bq1.trans (fq2.mono (by omega))
   have zq2 := fq2.size
   have tAq2 := tAq1.keep fq2 (by omega)
   have tBq2 := tBq1.keep fq2 (by omega)
   have tCq2 := tCq1.keep fq2 (by omega)
   have tVq2 := tVq1.keep fq2 (by omega)
   clear tAq1 tBq1 tCq1 tVq1
   go_wp2_with fail
   go_roundw
   case rel => exact ⟨k + 1, by omega, by go_num, bq2, E.out⟩
   case measure => simp [intOf]; omega
  ·have E : Hid (allB xs s.cons = true) := Lib.hid (HQ.out.symm.trans (by rw [List.drop_eq_nil_of_le (by omega)]; rfl))
   go_wp2_with fail
   go_ret
   exact ⟨ret_bool E.out.symm, be⟩

theorem checkB_1 {s : SysC} {xs : List Int} (h : sysOk s = false) : checkB s xs = false := by simp [checkB, h]
theorem checkB_2 {s : SysC} {xs : List Int} (h : ¬ (xs.length : Int) = varsN s) : checkB s xs = false := by simp [checkB, h]
theorem checkB_3 {s : SysC} {xs : List Int} (h : isAsg xs = false) : checkB s xs = false := by simp [checkB, h]
theorem checkB_4 {s : SysC} {xs : List Int} (h1 : sysOk s = true) (h2 : (xs.length : Int) = varsN s) (h3 : isAsg xs = true) : checkB s xs = allB xs s.cons := by simp [checkB, h1, h2, h3]
theorem cons_in {s : SysC} {xs : List Int} (h1 : sysOk s = true) (h2 : (xs.length : Int) = varsN s) : ∀ c ∈ s.cons, conW xs.length c = true := by rw [h2]; exact sysOk_cons_in h1
theorem outs_in {s : SysC} {xs : List Int} (h1 : sysOk s = true) (h2 : (xs.length : Int) = varsN s) : ∀ c ∈ s.outs, linW xs.length c = true := by rw [h2]; exact sysOk_outs_in h1

set_option maxRecDepth 100000 in
set_option maxHeartbeats 3200000 in
theorem check_impl (o l h vi vo vh vc) (s : SysC) (lim : Nat) (v : Value) (xs : List Int) (w : World) (t : SysR o l h w vi vo vh vc s) (hw : h ≤ w.heap.size) (ti : Ints lim w v xs) (hl : lim ≤ w.heap.size) (ni : xs.length ≤ 1048576) (nh : s.hints.length ≤ 1048576) (no : s.outs.length ≤ 1048576) (nc : s.cons.length ≤ 1048576) :
  Calls Tryz.prog 18 #[.agg #[vi, vo, vh, vc], v] w fun e w' => e = .returned (.bool (checkB s xs)) ∧ Below w.heap.size w w' := by
 obtain ⟨ao, ko, ah, kh, ac, kc, rfl, rfl, rfl, rfl, lo, bo, lh, bh, lc, bc, fi⟩ := t.shape
 obtain ⟨ai, ki, rfl, lai, bai⟩ := ti.shape
 cases h1 : sysOk s
 ·have HR := Lib.hid (checkB_1 (xs := xs) h1)
  have H1 := Lib.hid h1
  clear h1
  go_enter Tryz.func18, Tryz.ntmps18
  go_wp2_with fail
  refine name_call fun w1 hw1 => ?_
  have b1 : Below w.heap.size w w1 := by rw [hw1]; (repeat (with_reducible first | exact bR _ _ | assumption | refine bD ?_ | refine bN ?_ _ | refine bA ?_ _ | refine bS ?_ _))
  have z1 : w.heap.size + 1 ≤ w1.heap.size := by rw [hw1]; simp
  have e1 : Below w.heap.size w w1 := by rw [hw1]; (repeat (with_reducible first | exact bR _ _ | assumption | refine bD ?_ | refine bN ?_ _ | refine bA ?_ _ | refine bS ?_ _))
  have cI1 : w1.cell? ⟨w.heap.size, 0, none⟩ = some (.int .i64 s.ins) := by rw [hw1]; first | (simp; done) | go_simp
  have cO1 : w1.cell? ⟨w.heap.size, 1, none⟩ = some (.slice ao s.outs.length ko) := by rw [hw1]; first | (simp; done) | go_simp
  have cH1 : w1.cell? ⟨w.heap.size, 2, none⟩ = some (.slice ah s.hints.length kh) := by rw [hw1]; first | (simp; done) | go_simp
  have cC1 : w1.cell? ⟨w.heap.size, 3, none⟩ = some (.slice ac s.cons.length kc) := by rw [hw1]; first | (simp; done) | go_simp
  have tS1 := t.keep e1 (by omega)
  have tV1 := ti.keep e1 (by omega)
  clear hw1
  refine (sysOk_implb o l h _ _ _ _ s _ tS1 (by omega) nh no nc _ H1.out).mono ?_; rintro e w2 ⟨rfl, f2⟩
  have b2 := b1.trans (f2.mono (by omega))
  have z2 := f2.size
  have cI2 := cell_keep f2 cI1
  have cO2 := cell_keep f2 cO1
  have cH2 := cell_keep f2 cH1
  have cC2 := cell_keep f2 cC1
  have tS2 := tS1.keep f2 (by omega)
  have tV2 := tV1.keep f2 (by omega)
  clear cI1 cO1 cH1 cC1 tS1 tV1
  go_wp2_with fail
  go_ret
  exact ⟨ret_bool HR.out.symm, b2⟩
 obtain ⟨i0, i1, i2, i3, i4⟩ := limB_facts (sysOk_limB h1)
 by_cases h2 : (xs.length : Int) = varsN s
 case' neg =>
  have HR := Lib.hid (checkB_2 h2)
  have H1 := Lib.hid h1
  have e2 : ((xs.length : Int) == 1 + s.ins + (s.hints.length : Int)) = false := beq_eq_false_iff_ne.2 h2
  clear h1 h2
  go_enter Tryz.func18, Tryz.ntmps18
  go_wp2_with fail
  refine name_call fun w1 hw1 => ?_
  have b1 : Below w.heap.size w w1 := by rw [hw1]; (repeat (with_reducible first | exact bR _ _ | assumption | refine bD ?_ | refine bN ?_ _ | refine bA ?_ _ | refine bS ?_ _))
  have z1 : w.heap.size + 1 ≤ w1.heap.size := by rw [hw1]; simp
  have e1 : Below w.heap.size w w1 := by rw [hw1]; (repeat (with_reducible first | exact bR _ _ | assumption | refine bD ?_ | refine bN ?_ _ | refine bA ?_ _ | refine bS ?_ _))
  have cI1 : w1.cell? ⟨w.heap.size, 0, none⟩ = some (.int .i64 s.ins) := by rw [hw1]; first | (simp; done) | go_simp
  have cO1 : w1.cell? ⟨w.heap.size, 1, none⟩ = some (.slice ao s.outs.length ko) := by rw [hw1]; first | (simp; done) | go_simp
  have cH1 : w1.cell? ⟨w.heap.size, 2, none⟩ = some (.slice ah s.hints.length kh) := by rw [hw1]; first | (simp; done) | go_simp
  have cC1 : w1.cell? ⟨w.heap.size, 3, none⟩ = some (.slice ac s.cons.length kc) := by rw [hw1]; first | (simp; done) | go_simp
  have tS1 := t.keep e1 (by omega)
  have tV1 := ti.keep e1 (by omega)
  clear hw1
  refine (sysOk_implb o l h _ _ _ _ s _ tS1 (by omega) nh no nc _ H1.out).mono ?_; rintro e w2 ⟨rfl, f2⟩
  have b2 := b1.trans (f2.mono (by omega))
  have z2 := f2.size
  have cI2 := cell_keep f2 cI1
  have cO2 := cell_keep f2 cO1
  have cH2 := cell_keep f2 cH1
  have cC2 := cell_keep f2 cC1
  have tS2 := tS1.keep f2 (by omega)
  have tV2 := tV1.keep f2 (by omega)
  clear cI1 cO1 cH1 cC1 tS1 tV1
  have lcI2 : w.heap.size < w2.heap.size := World.block_lt_of_cell? _ _ cI2
  go_wp2_with fail
  refine name_call fun w3 hw3 => ?_
  have b3 : Below w.heap.size w w3 := by rw [hw3]; (repeat (with_reducible first | exact bR _ _ | assumption | refine bD ?_ | refine bN ?_ _ | refine bA ?_ _ | refine bS ?_ _))
  have z3 : w2.heap.size + 0 ≤ w3.heap.size := by rw [hw3]; simp
  have e3 : Below w2.heap.size w2 w3 := by rw [hw3]; (repeat (with_reducible first | exact bR _ _ | assumption | refine bD ?_ | refine bN ?_ _ | refine bA ?_ _ | refine bS ?_ _))
  have cI3 := cell_keep e3 cI2
  have cO3 := cell_keep e3 cO2
  have cH3 := cell_keep e3 cH2
  have cC3 := cell_keep e3 cC2
  have tS3 := tS2.keep e3 (by omega)
  have tV3 := tV2.keep e3 (by omega)
  clear hw3 lcI2 cI2 cO2 cH2 cC2 tS2 tV2
  refine (vars_any s _ _ _ _ _ _ _ i0 i1 nh).mono ?_; rintro e w4 ⟨rfl, f4⟩
  have b4 := b3.trans (f4.mono (by omega))
  have z4 := f4.size
  have cI4 := cell_keep f4 cI3
  have cO4 := cell_keep f4 cO3
  have cH4 := cell_keep f4 cH3
  have cC4 := cell_keep f4 cC3
  have tS4 := tS3.keep f4 (by omega)
  have tV4 := tV3.keep f4 (by omega)
  clear cI3 cO3 cH3 cC3 tS3 tV3
  go_wp2_with fail
  go_ret
  exact ⟨ret_bool HR.out.symm, b4⟩
 have e2 : ((xs.length : Int) == 1 + s.ins + (s.hints.length : Int)) = true := beq_iff_eq.2 h2
 cases h3 : isAsg xs
 ·have HR := Lib.hid (checkB_3 (s := s) h3)
  have H1 := Lib.hid h1
  have H3 := Lib.hid h3
  clear h1 h2 h3
  go_enter Tryz.func18, Tryz.ntmps18
  go_wp2_with fail
  refine name_call fun w1 hw1 => ?_
  have b1 : Below w.heap.size w w1 := by rw [hw1]; (repeat (with_reducible first | exact bR _ _ | assumption | refine bD ?_ | refine bN ?_ _ | refine bA ?_ _ | refine bS ?_ _))
  have z1 : w.heap.size + 1 ≤ w1.heap.size := by rw [hw1]; simp
  have e1 : Below w.heap.size w w1 := by rw [hw1]; (repeat (with_reducible first | exact bR _ _ | assumption | refine bD ?_ | refine bN ?_ _ | refine bA ?_ _ | refine bS ?_ _))
  have cI1 : w1.cell? ⟨w.heap.size, 0, none⟩ = some (.int .i64 s.ins) := by rw [hw1]; first | (simp; done) | go_simp
  have cO1 : w1.cell? ⟨w.heap.size, 1, none⟩ = some (.slice ao s.outs.length ko) := by rw [hw1]; first | (simp; done) | go_simp
  have cH1 : w1.cell? ⟨w.heap.size, 2, none⟩ = some (.slice ah s.hints.length kh) := by rw [hw1]; first | (simp; done) | go_simp
  have cC1 : w1.cell? ⟨w.heap.size, 3, none⟩ = some (.slice ac s.cons.length kc) := by rw [hw1]; first | (simp; done) | go_simp
  have tS1 := t.keep e1 (by omega)
  have tV1 := ti.keep e1 (by omega)
  clear hw1
  refine (sysOk_implb o l h _ _ _ _ s _ tS1 (by omega) nh no nc _ H1.out).mono ?_; rintro e w2 ⟨rfl, f2⟩
  have b2 := b1.trans (f2.mono (by omega))
  have z2 := f2.size
  have cI2 := cell_keep f2 cI1
  have cO2 := cell_keep f2 cO1
  have cH2 := cell_keep f2 cH1
  have cC2 := cell_keep f2 cC1
  have tS2 := tS1.keep f2 (by omega)
  have tV2 := tV1.keep f2 (by omega)
  clear cI1 cO1 cH1 cC1 tS1 tV1
  have lcI2 : w.heap.size < w2.heap.size := World.block_lt_of_cell? _ _ cI2
  go_wp2_with fail
  refine name_call fun w3 hw3 => ?_
  have b3 : Below w.heap.size w w3 := by rw [hw3]; (repeat (with_reducible first | exact bR _ _ | assumption | refine bD ?_ | refine bN ?_ _ | refine bA ?_ _ | refine bS ?_ _))
  have z3 : w2.heap.size + 0 ≤ w3.heap.size := by rw [hw3]; simp
  have e3 : Below w2.heap.size w2 w3 := by rw [hw3]; (repeat (with_reducible first | exact bR _ _ | assumption | refine bD ?_ | refine bN ?_ _ | refine bA ?_ _ | refine bS ?_ _))
  have cI3 := cell_keep e3 cI2
  have cO3 := cell_keep e3 cO2
  have cH3 := cell_keep e3 cH2
  have cC3 := cell_keep e3 cC2
  have tS3 := tS2.keep e3 (by omega)
  have tV3 := tV2.keep e3 (by omega)
  clear hw3 lcI2 cI2 cO2 cH2 cC2 tS2 tV2
  refine (vars_any s _ _ _ _ _ _ _ i0 i1 nh).mono ?_; rintro e w4 ⟨rfl, f4⟩
  have b4 := b3.trans (f4.mono (by omega))
  have z4 := f4.size
  have cI4 := cell_keep f4 cI3
  have cO4 := cell_keep f4 cO3
  have cH4 := cell_keep f4 cH3
  have cC4 := cell_keep f4 cC3
  have tS4 := tS3.keep f4 (by omega)
  have tV4 := tV3.keep f4 (by omega)
  clear cI3 cO3 cH3 cC3 tS3 tV3
  have lcI4 : w.heap.size < w4.heap.size := World.block_lt_of_cell? _ _ cI4
  go_wp2_with fail
  refine name_call fun w5 hw5 => ?_
  have b5 : Below w.heap.size w w5 := by rw [hw5]; (repeat (with_reducible first | exact bR _ _ | assumption | refine bD ?_ | refine bN ?_ _ | refine bA ?_ _ | refine bS ?_ _))
  have z5 : w4.heap.size + 0 ≤ w5.heap.size := by rw [hw5]; simp
  have e5 : Below w4.heap.size w4 w5 := by rw [hw5]; (repeat (with_reducible first | exact bR _ _ | assumption | refine bD ?_ | refine bN ?_ _ | refine bA ?_ _ | refine bS ?_ _))
  have cI5 := cell_keep e5 cI4
  have cO5 := cell_keep e5 cO4
  have cH5 := cell_keep e5 cH4
  have cC5 := cell_keep e5 cC4
  have tS5 := tS4.keep e5 (by omega)
  have tV5 := tV4.keep e5 (by omega)
  clear hw5 lcI4 cI4 cO4 cH4 cC4 tS4 tV4
  refine (asg_impl lim _ xs _ tV5).mono ?_; rw [H3.out]; rintro e w' ⟨rfl, rfl⟩
  go_wp2_with fail
  go_ret
  exact ⟨ret_bool HR.out.symm, b5⟩
 ·have HR := Lib.hid (checkB_4 h1 h2 h3)
  have H4 := Lib.hid (cons_in h1 h2)
  have H1 := Lib.hid h1
  have H3 := Lib.hid h3
  clear h1 h2 h3
  go_enter Tryz.func18, Tryz.ntmps18
  go_wp2_with fail
  refine name_call fun w1 hw1 => ?_
  have b1 : Below w.heap.size w w1 := by rw [hw1]; (repeat (with_reducible first | exact bR _ _ | assumption | refine bD ?_ | refine bN ?_ _ | refine bA ?_ _ | refine bS ?_ _))
  have z1 : w.heap.size + 1 ≤ w1.heap.size := by rw [hw1]; simp
  have e1 : Below w.heap.size w w1 := by rw [hw1]; (repeat (with_reducible first | exact bR _ _ | assumption | refine bD ?_ | refine bN ?_ _ | refine bA ?_ _ | refine bS ?_ _))
  have cI1 : w1.cell? ⟨w.heap.size, 0, none⟩ = some (.int .i64 s.ins) := by rw [hw1]; first | (simp; done) | go_simp
  have cO1 : w1.cell? ⟨w.heap.size, 1, none⟩ = some (.slice ao s.outs.length ko) := by rw [hw1]; first | (simp; done) | go_simp
  have cH1 : w1.cell? ⟨w.heap.size, 2, none⟩ = some (.slice ah s.hints.length kh) := by rw [hw1]; first | (simp; done) | go_simp
  have cC1 : w1.cell? ⟨w.heap.size, 3, none⟩ = some (.slice ac s.cons.length kc) := by rw [hw1]; first | (simp; done) | go_simp
  have tS1 := t.keep e1 (by omega)
  have tV1 := ti.keep e1 (by omega)
  clear hw1
  refine (sysOk_implb o l h _ _ _ _ s _ tS1 (by omega) nh no nc _ H1.out).mono ?_; rintro e w2 ⟨rfl, f2⟩
  have b2 := b1.trans (f2.mono (by omega))
  have z2 := f2.size
  have cI2 := cell_keep f2 cI1
  have cO2 := cell_keep f2 cO1
  have cH2 := cell_keep f2 cH1
  have cC2 := cell_keep f2 cC1
  have tS2 := tS1.keep f2 (by omega)
  have tV2 := tV1.keep f2 (by omega)
  clear cI1 cO1 cH1 cC1 tS1 tV1
  have lcI2 : w.heap.size < w2.heap.size := World.block_lt_of_cell? _ _ cI2
  go_wp2_with fail
  refine name_call fun w3 hw3 => ?_
  have b3 : Below w.heap.size w w3 := by rw [hw3]; (repeat (with_reducible first | exact bR _ _ | assumption | refine bD ?_ | refine bN ?_ _ | refine bA ?_ _ | refine bS ?_ _))
  have z3 : w2.heap.size + 0 ≤ w3.heap.size := by rw [hw3]; simp
  have e3 : Below w2.heap.size w2 w3 := by rw [hw3]; (repeat (with_reducible first | exact bR _ _ | assumption | refine bD ?_ | refine bN ?_ _ | refine bA ?_ _ | refine bS ?_ _))
  have cI3 := cell_keep e3 cI2
  have cO3 := cell_keep e3 cO2
  have cH3 := cell_keep e3 cH2
  have cC3 := cell_keep e3 cC2
  have tS3 := tS2.keep e3 (by omega)
  have tV3 := tV2.keep e3 (by omega)
  clear hw3 lcI2 cI2 cO2 cH2 cC2 tS2 tV2
  refine (vars_any s _ _ _ _ _ _ _ i0 i1 nh).mono ?_; rintro e w4 ⟨rfl, f4⟩
  have b4 := b3.trans (f4.mono (by omega))
  have z4 := f4.size
  have cI4 := cell_keep f4 cI3
  have cO4 := cell_keep f4 cO3
  have cH4 := cell_keep f4 cH3
  have cC4 := cell_keep f4 cC3
  have tS4 := tS3.keep f4 (by omega)
  have tV4 := tV3.keep f4 (by omega)
  clear cI3 cO3 cH3 cC3 tS3 tV3
  have lcI4 : w.heap.size < w4.heap.size := World.block_lt_of_cell? _ _ cI4
  go_wp2_with fail
  refine name_call fun w5 hw5 => ?_
  have b5 : Below w.heap.size w w5 := by rw [hw5]; (repeat (with_reducible first | exact bR _ _ | assumption | refine bD ?_ | refine bN ?_ _ | refine bA ?_ _ | refine bS ?_ _))
  have z5 : w4.heap.size + 0 ≤ w5.heap.size := by rw [hw5]; simp
  have e5 : Below w4.heap.size w4 w5 := by rw [hw5]; (repeat (with_reducible first | exact bR _ _ | assumption | refine bD ?_ | refine bN ?_ _ | refine bA ?_ _ | refine bS ?_ _))
  have cI5 := cell_keep e5 cI4
  have cO5 := cell_keep e5 cO4
  have cH5 := cell_keep e5 cH4
  have cC5 := cell_keep e5 cC4
  have tS5 := tS4.keep e5 (by omega)
  have tV5 := tV4.keep e5 (by omega)
  clear hw5 lcI4 cI4 cO4 cH4 cC4 tS4 tV4
  refine (asg_impl lim _ xs _ tV5).mono ?_; rw [H3.out]; rintro e w' ⟨rfl, rfl⟩
  have lcI5 : w.heap.size < w5.heap.size := World.block_lt_of_cell? _ _ cI5
  go_wp2_with fail
  refine name_call fun w6 hw6 => ?_
  have b6 : Below w.heap.size w w6 := by rw [hw6]; (repeat (with_reducible first | exact bR _ _ | assumption | refine bD ?_ | refine bN ?_ _ | refine bA ?_ _ | refine bS ?_ _))
  have z6 : w5.heap.size + 0 ≤ w6.heap.size := by rw [hw6]; simp
  have e6 : Below w5.heap.size w5 w6 := by rw [hw6]; (repeat (with_reducible first | exact bR _ _ | assumption | refine bD ?_ | refine bN ?_ _ | refine bA ?_ _ | refine bS ?_ _))
  have cI6 := cell_keep e6 cI5
  have cO6 := cell_keep e6 cO5
  have cH6 := cell_keep e6 cH5
  have cC6 := cell_keep e6 cC5
  have tS6 := tS5.keep e6 (by omega)
  have tV6 := tV5.keep e6 (by omega)
  clear hw6 lcI5 cI5 cO5 cH5 cC5 tS5 tV5
  refine (sysHolds_any o l h _ _ _ _ s lim _ xs _ tS6 (by omega) tV6 (by omega) H3.out H4.out).mono ?_; rintro e w7 ⟨rfl, f7⟩
  have b7 := b6.trans (f7.mono (by omega))
  have z7 := f7.size
  have cI7 := cell_keep f7 cI6
  have cO7 := cell_keep f7 cO6
  have cH7 := cell_keep f7 cH6
  have cC7 := cell_keep f7 cC6
  have tS7 := tS6.keep f7 (by omega)
  have tV7 := tV6.keep f7 (by omega)
  clear cI6 cO6 cH6 cC6 tS6 tV6
  go_wp2_with fail
  go_ret
  exact ⟨ret_bool HR.out.symm, b7⟩

set_option maxRecDepth 100000 in
set_option maxHeartbeats 6400000 in
theorem check_spec (o l h vi vo vh vc) (s : SysC) (lim : Nat) (v : Value) (xs : List Int) (w : World) (t : SysR o l h w vi vo vh vc s) (hw : h ≤ w.heap.size) (ti : Ints lim w v xs) (hl : lim ≤ w.heap.size) (ni : xs.length ≤ 1048576) (nh : s.hints.length ≤ 1048576) (no : s.outs.length ≤ 1048576) (nc : s.cons.length ≤ 1048576) :
  Calls Tryz.prog 39 #[.agg #[vi, vo, vh, vc], v] w fun e w' => e = .returned (.bool (checkB s xs)) ∧ Below w.heap.size w w' := by
 obtain ⟨tO, tH, tC⟩ := t.parts
 obtain ⟨ao, ko, ah, kh, ac, kc, rfl, rfl, rfl, rfl, lo, bo, lh, bh, lc, bc, fi⟩ := t.shape
 obtain ⟨ai, ki, rfl, lai, bai⟩ := ti.shape
 cases h1 : sysOk s
 ·have HR := Lib.hid (checkB_1 (xs := xs) h1)
  have H1 := Lib.hid h1
  clear h1
  go_enter Tryz.func39, Tryz.ntmps39
  go_wp2_with fail
  refine name_call fun w1 hw1 => ?_
  have b1 : Below w.heap.size w w1 := by rw [hw1]; (repeat (with_reducible first | exact bR _ _ | assumption | refine bD ?_ | refine bN ?_ _ | refine bA ?_ _ | refine bS ?_ _))
  have z1 : w.heap.size + 1 ≤ w1.heap.size := by rw [hw1]; simp
  have e1 : Below w.heap.size w w1 := by rw [hw1]; (repeat (with_reducible first | exact bR _ _ | assumption | refine bD ?_ | refine bN ?_ _ | refine bA ?_ _ | refine bS ?_ _))
  have cI1 : w1.cell? ⟨w.heap.size, 0, none⟩ = some (.int .i64 s.ins) := by rw [hw1]; first | (simp; done) | go_simp
  have cO1 : w1.cell? ⟨w.heap.size, 1, none⟩ = some (.slice ao s.outs.length ko) := by rw [hw1]; first | (simp; done) | go_simp
  have cH1 : w1.cell? ⟨w.heap.size, 2, none⟩ = some (.slice ah s.hints.length kh) := by rw [hw1]; first | (simp; done) | go_simp
  have cC1 : w1.cell? ⟨w.heap.size, 3, none⟩ = some (.slice ac s.cons.length kc) := by rw [hw1]; first | (simp; done) | go_simp
  have tS1 := t.keep e1 (by omega)
  have tV1 := ti.keep e1 (by omega)
  clear hw1
  refine (sysOk_specb o l h _ _ _ _ s _ tS1 (by omega) nh no nc _ H1.out).mono ?_; rintro e w2 ⟨rfl, f2⟩
  have b2 := b1.trans (f2.mono (by omega))
  have z2 := f2.size
  have cI2 := cell_keep f2 cI1
  have cO2 := cell_keep f2 cO1
  have cH2 := cell_keep f2 cH1
  have cC2 := cell_keep f2 cC1
  have tS2 := tS1.keep f2 (by omega)
  have tV2 := tV1.keep f2 (by omega)
  clear cI1 cO1 cH1 cC1 tS1 tV1
  go_wp2_with fail
  go_ret
  exact ⟨ret_bool HR.out.symm, b2⟩
 obtain ⟨i0, i1, i2, i3, i4⟩ := limB_facts (sysOk_limB h1)
 cases h3 : isAsg xs
 ·have HR := Lib.hid (checkB_3 (s := s) h3)
  have H1 := Lib.hid h1
  have H3 := Lib.hid h3
  clear h1 h3
  go_enter Tryz.func39, Tryz.ntmps39
  go_wp2_with fail
  refine name_call fun w1 hw1 => ?_
  have b1 : Below w.heap.size w w1 := by rw [hw1]; (repeat (with_reducible first | exact bR _ _ | assumption | refine bD ?_ | refine bN ?_ _ | refine bA ?_ _ | refine bS ?_ _))
  have z1 : w.heap.size + 1 ≤ w1.heap.size := by rw [hw1]; simp
  have e1 : Below w.heap.size w w1 := by rw [hw1]; (repeat (with_reducible first | exact bR _ _ | assumption | refine bD ?_ | refine bN ?_ _ | refine bA ?_ _ | refine bS ?_ _))
  have cI1 : w1.cell? ⟨w.heap.size, 0, none⟩ = some (.int .i64 s.ins) := by rw [hw1]; first | (simp; done) | go_simp
  have cO1 : w1.cell? ⟨w.heap.size, 1, none⟩ = some (.slice ao s.outs.length ko) := by rw [hw1]; first | (simp; done) | go_simp
  have cH1 : w1.cell? ⟨w.heap.size, 2, none⟩ = some (.slice ah s.hints.length kh) := by rw [hw1]; first | (simp; done) | go_simp
  have cC1 : w1.cell? ⟨w.heap.size, 3, none⟩ = some (.slice ac s.cons.length kc) := by rw [hw1]; first | (simp; done) | go_simp
  have tS1 := t.keep e1 (by omega)
  have tV1 := ti.keep e1 (by omega)
  clear hw1
  refine (sysOk_specb o l h _ _ _ _ s _ tS1 (by omega) nh no nc _ H1.out).mono ?_; rintro e w2 ⟨rfl, f2⟩
  have b2 := b1.trans (f2.mono (by omega))
  have z2 := f2.size
  have cI2 := cell_keep f2 cI1
  have cO2 := cell_keep f2 cO1
  have cH2 := cell_keep f2 cH1
  have cC2 := cell_keep f2 cC1
  have tS2 := tS1.keep f2 (by omega)
  have tV2 := tV1.keep f2 (by omega)
  clear cI1 cO1 cH1 cC1 tS1 tV1
  have lcI2 : w.heap.size < w2.heap.size := World.block_lt_of_cell? _ _ cI2
  go_wp2_with fail
  refine name_call fun w3 hw3 => ?_
  have b3 : Below w.heap.size w w3 := by rw [hw3]; (repeat (with_reducible first | exact bR _ _ | assumption | refine bD ?_ | refine bN ?_ _ | refine bA ?_ _ | refine bS ?_ _))
  have z3 : w2.heap.size + 0 ≤ w3.heap.size := by rw [hw3]; simp
  have e3 : Below w2.heap.size w2 w3 := by rw [hw3]; (repeat (with_reducible first | exact bR _ _ | assumption | refine bD ?_ | refine bN ?_ _ | refine bA ?_ _ | refine bS ?_ _))
  have cI3 := cell_keep e3 cI2
  have cO3 := cell_keep e3 cO2
  have cH3 := cell_keep e3 cH2
  have cC3 := cell_keep e3 cC2
  have tS3 := tS2.keep e3 (by omega)
  have tV3 := tV2.keep e3 (by omega)
  clear hw3 lcI2 cI2 cO2 cH2 cC2 tS2 tV2
  refine (asg_spec lim _ xs _ tV3).mono ?_; rw [H3.out]; rintro e w' ⟨rfl, rfl⟩
  go_wp2_with fail
  go_ret
  exact ⟨ret_bool HR.out.symm, b3⟩
 by_cases h2 : (xs.length : Int) = varsN s
 case' neg =>
  have HR := Lib.hid (checkB_2 h2)
  have H1 := Lib.hid h1
  have H3 := Lib.hid h3
  have e2 : ((xs.length : Int) != 1 + s.ins + (s.hints.length : Int)) = true := by unfold varsN at h2; simpa using h2
  clear h1 h2 h3
  go_enter Tryz.func39, Tryz.ntmps39
  go_wp2_with fail
  refine name_call fun w1 hw1 => ?_
  have b1 : Below w.heap.size w w1 := by rw [hw1]; (repeat (with_reducible first | exact bR _ _ | assumption | refine bD ?_ | refine bN ?_ _ | refine bA ?_ _ | refine bS ?_ _))
  have z1 : w.heap.size + 1 ≤ w1.heap.size := by rw [hw1]; simp
  have e1 : Below w.heap.size w w1 := by rw [hw1]; (repeat (with_reducible first | exact bR _ _ | assumption | refine bD ?_ | refine bN ?_ _ | refine bA ?_ _ | refine bS ?_ _))
  have cI1 : w1.cell? ⟨w.heap.size, 0, none⟩ = some (.int .i64 s.ins) := by rw [hw1]; first | (simp; done) | go_simp
  have cO1 : w1.cell? ⟨w.heap.size, 1, none⟩ = some (.slice ao s.outs.length ko) := by rw [hw1]; first | (simp; done) | go_simp
  have cH1 : w1.cell? ⟨w.heap.size, 2, none⟩ = some (.slice ah s.hints.length kh) := by rw [hw1]; first | (simp; done) | go_simp
  have cC1 : w1.cell? ⟨w.heap.size, 3, none⟩ = some (.slice ac s.cons.length kc) := by rw [hw1]; first | (simp; done) | go_simp
  have tS1 := t.keep e1 (by omega)
  have tV1 := ti.keep e1 (by omega)
  clear hw1
  refine (sysOk_specb o l h _ _ _ _ s _ tS1 (by omega) nh no nc _ H1.out).mono ?_; rintro e w2 ⟨rfl, f2⟩
  have b2 := b1.trans (f2.mono (by omega))
  have z2 := f2.size
  have cI2 := cell_keep f2 cI1
  have cO2 := cell_keep f2 cO1
  have cH2 := cell_keep f2 cH1
  have cC2 := cell_keep f2 cC1
  have tS2 := tS1.keep f2 (by omega)
  have tV2 := tV1.keep f2 (by omega)
  clear cI1 cO1 cH1 cC1 tS1 tV1
  have lcI2 : w.heap.size < w2.heap.size := World.block_lt_of_cell? _ _ cI2
  go_wp2_with fail
  refine name_call fun w3 hw3 => ?_
  have b3 : Below w.heap.size w w3 := by rw [hw3]; (repeat (with_reducible first | exact bR _ _ | assumption | refine bD ?_ | refine bN ?_ _ | refine bA ?_ _ | refine bS ?_ _))
  have z3 : w2.heap.size + 0 ≤ w3.heap.size := by rw [hw3]; simp
  have e3 : Below w2.heap.size w2 w3 := by rw [hw3]; (repeat (with_reducible first | exact bR _ _ | assumption | refine bD ?_ | refine bN ?_ _ | refine bA ?_ _ | refine bS ?_ _))
  have cI3 := cell_keep e3 cI2
  have cO3 := cell_keep e3 cO2
  have cH3 := cell_keep e3 cH2
  have cC3 := cell_keep e3 cC2
  have tS3 := tS2.keep e3 (by omega)
  have tV3 := tV2.keep e3 (by omega)
  clear hw3 lcI2 cI2 cO2 cH2 cC2 tS2 tV2
  refine (asg_spec lim _ xs _ tV3).mono ?_; rw [H3.out]; rintro e w' ⟨rfl, rfl⟩
  have lcI3 : w.heap.size < w3.heap.size := World.block_lt_of_cell? _ _ cI3
  go_wp2_with fail
  refine name_call fun w4 hw4 => ?_
  have b4 : Below w.heap.size w w4 := by rw [hw4]; (repeat (with_reducible first | exact bR _ _ | assumption | refine bD ?_ | refine bN ?_ _ | refine bA ?_ _ | refine bS ?_ _))
  have z4 : w3.heap.size + 0 ≤ w4.heap.size := by rw [hw4]; simp
  have e4 : Below w3.heap.size w3 w4 := by rw [hw4]; (repeat (with_reducible first | exact bR _ _ | assumption | refine bD ?_ | refine bN ?_ _ | refine bA ?_ _ | refine bS ?_ _))
  have cI4 := cell_keep e4 cI3
  have cO4 := cell_keep e4 cO3
  have cH4 := cell_keep e4 cH3
  have cC4 := cell_keep e4 cC3
  have tS4 := tS3.keep e4 (by omega)
  have tV4 := tV3.keep e4 (by omega)
  clear hw4 lcI3 cI3 cO3 cH3 cC3 tS3 tV3
  refine (l3vars_any s _ _ _ _ _ _ _ i0 i1 nh).mono ?_; rintro e w5 ⟨rfl, f5⟩
  have b5 := b4.trans (f5.mono (by omega))
  have z5 := f5.size
  have cI5 := cell_keep f5 cI4
  have cO5 := cell_keep f5 cO4
  have cH5 := cell_keep f5 cH4
  have cC5 := cell_keep f5 cC4
  have tS5 := tS4.keep f5 (by omega)
  have tV5 := tV4.keep f5 (by omega)
  clear cI4 cO4 cH4 cC4 tS4 tV4
  go_wp2_with fail
  go_ret
  exact ⟨ret_bool HR.out.symm, b5⟩
 have HR := Lib.hid (checkB_4 h1 h2 h3)
 have HC := Lib.hid (cons_in h1 h2)
 have H1 := Lib.hid h1
 have H3 := Lib.hid h3
 have e2 : ((xs.length : Int) != 1 + s.ins + (s.hints.length : Int)) = false := by unfold varsN at h2; simpa using h2
 clear h1 h2 h3
 go_enter Tryz.func39, Tryz.ntmps39
 go_wp2_with fail
 refine name_call fun w1 hw1 => ?_
 have b1 : Below w.heap.size w w1 := by rw [hw1]; (repeat (with_reducible first | exact bR _ _ | assumption | refine bD ?_ | refine bN ?_ _ | refine bA ?_ _ | refine bS ?_ _))
 have z1 : w.heap.size + 1 ≤ w1.heap.size := by rw [hw1]; simp
 have e1 : Below w.heap.size w w1 := by rw [hw1]; (repeat (with_reducible first | exact bR _ _ | assumption | refine bD ?_ | refine bN ?_ _ | refine bA ?_ _ | refine bS ?_ _))
 have cI1 : w1.cell? ⟨w.heap.size, 0, none⟩ = some (.int .i64 s.ins) := by rw [hw1]; first | (simp; done) | go_simp
 have cO1 : w1.cell? ⟨w.heap.size, 1, none⟩ = some (.slice ao s.outs.length ko) := by rw [hw1]; first | (simp; done) | go_simp
 have cH1 : w1.cell? ⟨w.heap.size, 2, none⟩ = some (.slice ah s.hints.length kh) := by rw [hw1]; first | (simp; done) | go_simp
 have cC1 : w1.cell? ⟨w.heap.size, 3, none⟩ = some (.slice ac s.cons.length kc) := by rw [hw1]; first | (simp; done) | go_simp
 have tS1 := t.keep e1 (by omega)
 have tV1 := ti.keep e1 (by omega)
 clear hw1
 refine (sysOk_specb o l h _ _ _ _ s _ tS1 (by omega) nh no nc _ H1.out).mono ?_; rintro e w2 ⟨rfl, f2⟩
 have b2 := b1.trans (f2.mono (by omega))
 have z2 := f2.size
 have cI2 := cell_keep f2 cI1
 have cO2 := cell_keep f2 cO1
 have cH2 := cell_keep f2 cH1
 have cC2 := cell_keep f2 cC1
 have tS2 := tS1.keep f2 (by omega)
 have tV2 := tV1.keep f2 (by omega)
 clear cI1 cO1 cH1 cC1 tS1 tV1
 have lcI2 : w.heap.size < w2.heap.size := World.block_lt_of_cell? _ _ cI2
 go_wp2_with fail
 refine name_call fun w3 hw3 => ?_
 have b3 : Below w.heap.size w w3 := by rw [hw3]; (repeat (with_reducible first | exact bR _ _ | assumption | refine bD ?_ | refine bN ?_ _ | refine bA ?_ _ | refine bS ?_ _))
 have z3 : w2.heap.size + 0 ≤ w3.heap.size := by rw [hw3]; simp
 have e3 : Below w2.heap.size w2 w3 := by rw [hw3]; (repeat (with_reducible first | exact bR _ _ | assumption | refine bD ?_ | refine bN ?_ _ | refine bA ?_ _ | refine bS ?_ _))
 have cI3 := cell_keep e3 cI2
 have cO3 := cell_keep e3 cO2
 have cH3 := cell_keep e3 cH2
 have cC3 := cell_keep e3 cC2
 have tS3 := tS2.keep e3 (by omega)
 have tV3 := tV2.keep e3 (by omega)
 clear hw3 lcI2 cI2 cO2 cH2 cC2 tS2 tV2
 refine (asg_spec lim _ xs _ tV3).mono ?_; rw [H3.out]; rintro e w' ⟨rfl, rfl⟩
 have lcI3 : w.heap.size < w3.heap.size := World.block_lt_of_cell? _ _ cI3
 go_wp2_with fail
 refine name_call fun w4 hw4 => ?_
 have b4 : Below w.heap.size w w4 := by rw [hw4]; (repeat (with_reducible first | exact bR _ _ | assumption | refine bD ?_ | refine bN ?_ _ | refine bA ?_ _ | refine bS ?_ _))
 have z4 : w3.heap.size + 0 ≤ w4.heap.size := by rw [hw4]; simp
 have e4 : Below w3.heap.size w3 w4 := by rw [hw4]; (repeat (with_reducible first | exact bR _ _ | assumption | refine bD ?_ | refine bN ?_ _ | refine bA ?_ _ | refine bS ?_ _))
 have cI4 := cell_keep e4 cI3
 have cO4 := cell_keep e4 cO3
 have cH4 := cell_keep e4 cH3
 have cC4 := cell_keep e4 cC3
 have tS4 := tS3.keep e4 (by omega)
 have tV4 := tV3.keep e4 (by omega)
 clear hw4 lcI3 cI3 cO3 cH3 cC3 tS3 tV3
 refine (l3vars_any s _ _ _ _ _ _ _ i0 i1 nh).mono ?_; rintro e w5 ⟨rfl, f5⟩
 have b5 := b4.trans (f5.mono (by omega))
 have z5 := f5.size
 have cI5 := cell_keep f5 cI4
 have cO5 := cell_keep f5 cO4
 have cH5 := cell_keep f5 cH4
 have cC5 := cell_keep f5 cC4
 have tS5 := tS4.keep f5 (by omega)
 have tV5 := tV4.keep f5 (by omega)
 clear cI4 cO4 cH4 cC4 tS4 tV4
 go_wp2_with fail
 clear e2
 go_loopw [5] (fun i wr => ∃ k : Nat, k ≤ s.cons.length ∧ i = .int .i64 k ∧ Below w.heap.size w wr ∧ w.heap.size < wr.heap.size ∧ wr.cell? ⟨w.heap.size, 0, none⟩ = some (.int .i64 s.ins) ∧ wr.cell? ⟨w.heap.size, 1, none⟩ = some (.slice ao s.outs.length ko) ∧ wr.cell? ⟨w.heap.size, 2, none⟩ = some (.slice ah s.hints.length kh) ∧ wr.cell? ⟨w.heap.size, 3, none⟩ = some (.slice ac s.cons.length kc) ∧ (s.cons.drop k).all (holdsB xs) = s.cons.all (holdsB xs)) (fun i _ => s.cons.length - (intOf i).toNat)
 case atStart => exact ⟨0, Nat.zero_le _, rfl, b5, by omega, cI5, cO5, cH5, cC5, rfl⟩
 case round =>
  clear cI5 cO5 cH5 cC5
  obtain ⟨k, hk, rfl, be, zz, cI, cO, cH, cC, hq⟩ := hrel
  have HQ := Lib.hid hq
  clear hq
  by_cases hlt : k < s.cons.length
  ·obtain ⟨b, off, va, vb, vc, rfl, l1, m1, c0, c1, c2, ta, tb, tc⟩ := (tC.keep be hw).at hlt
   obtain ⟨x, kx, rfl, lx, bx⟩ := ta.shape
   obtain ⟨y, ky, rfl, ly, by'⟩ := tb.shape
   obtain ⟨z, kz, rfl, lz, bz'⟩ := tc.shape
   have ti' := ti.keep be hl
   have HW := Lib.hid (HC.out _ (List.getElem_mem hlt))
   have bl : b < wr.heap.size := World.block_lt_of_cell? _ _ c0
   cases hh : holdsB xs s.cons[k]
   ·have E : Hid (allB xs s.cons = false) := Lib.hid (HQ.out.symm.trans (all_stop hlt hh))
    have HH := Lib.hid hh
    clear hh HQ
    have lcI : w.heap.size < wr.heap.size := World.block_lt_of_cell? _ _ cI
    go_wp2_with fail
    refine name_call fun wp1 hwp1 => ?_
    have bp1 : Below w.heap.size w wp1 := by rw [hwp1]; (repeat (with_reducible first | exact bR _ _ | assumption | refine bD ?_ | refine bN ?_ _ | refine bA ?_ _ | refine bS ?_ _))
    have zp1 : wr.heap.size + 0 ≤ wp1.heap.size := by rw [hwp1]; simp
    have ep1 : Below wr.heap.size wr wp1 := by rw [hwp1]; (repeat (with_reducible first | exact bR _ _ | assumption | refine bD ?_ | refine bN ?_ _ | refine bA ?_ _ | refine bS ?_ _))
    have cIp1 := cell_keep ep1 cI
    have cOp1 := cell_keep ep1 cO
    have cHp1 := cell_keep ep1 cH
    have cCp1 := cell_keep ep1 cC
    have tAp1 := ta.keep ep1 (by omega)
    have tBp1 := tb.keep ep1 (by omega)
    have tCp1 := tc.keep ep1 (by omega)
    have tVp1 := ti'.keep ep1 (by omega)
    clear hwp1 lcI cI cO cH cC ta tb tc ti'
    refine (l3holds_any o l h _ _ _ s.cons[k] lim _ xs _ tAp1 tBp1 tCp1 (by omega) tVp1 (by omega) H3.out HW.out).mono ?_; rw [HH.out]; rintro e wp2 ⟨rfl, fp2⟩
    have bp2 := bp1.trans (fp2.mono (by omega))
    have zp2 := fp2.size
    have cIp2 := cell_keep fp2 cIp1
    have cOp2 := cell_keep fp2 cOp1
    have cHp2 := cell_keep fp2 cHp1
    have cCp2 := cell_keep fp2 cCp1
    have tAp2 := tAp1.keep fp2 (by omega)
    have tBp2 := tBp1.keep fp2 (by omega)
    have tCp2 := tCp1.keep fp2 (by omega)
    have tVp2 := tVp1.keep fp2 (by omega)
    clear cIp1 cOp1 cHp1 cCp1 tAp1 tBp1 tCp1 tVp1
    go_wp2_with fail
    go_ret
    exact ⟨ret_bool (by rw [HR.out, E.out]), bp2⟩
   have E := Lib.hid ((all_step hlt hh).symm.trans HQ.out)
   have HH := Lib.hid hh
   clear hh HQ
   have lcI : w.heap.size < wr.heap.size := World.block_lt_of_cell? _ _ cI
   go_wp2_with fail
   refine name_call fun wq1 hwq1 => ?_
   have bq1 : Below w.heap.size w wq1 := by rw [hwq1]; (repeat (with_reducible first | exact bR _ _ | assumption | refine bD ?_ | refine bN ?_ _ | refine bA ?_ _ | refine bS ?_ _))
   have zq1 : wr.heap.size + 0 ≤ wq1.heap.size := by rw [hwq1]; simp
   have eq1 : Below wr.heap.size wr wq1 := by rw [hwq1]; (repeat (with_reducible first | exact bR _ _ | assumption | refine bD ?_ | refine bN ?_ _ | refine bA ?_ _ | refine bS ?_ _))
   have cIq1 := cell_keep eq1 cI
   have cOq1 := cell_keep eq1 cO
   have cHq1 := cell_keep eq1 cH
   have cCq1 := cell_keep eq1 cC
   have tAq1 := ta.keep eq1 (by omega)
   have tBq1 := tb.keep eq1 (by omega)
   have tCq1 := tc.keep eq1 (by omega)
   have tVq1 := ti'.keep eq1 (by omega)
   clear hwq1 lcI cI cO cH cC ta tb tc ti'
   refine (l3holds_any o l h _ _ _ s.cons[k] lim _ xs _ tAq1 tBq1 tCq1 (by omega) tVq1 (by omega) H3.out HW.out).mono ?_; rw [HH.out]; rintro e wq2 ⟨rfl, fq2⟩
   have bq2 := bq1.trans (fq2.mono (by omega))
   have zq2 := fq2.size
   have cIq2 := cell_keep fq2 cIq1
   have cOq2 := cell_keep fq2 cOq1
   have cHq2 := cell_keep fq2 cHq1
   have cCq2 := cell_keep fq2 cCq1
   have tAq2 := tAq1.keep fq2 (by omega)
   have tBq2 := tBq1.keep fq2 (by omega)
   have tCq2 := tCq1.keep fq2 (by omega)
   have tVq2 := tVq1.keep fq2 (by omega)
   clear cIq1 cOq1 cHq1 cCq1 tAq1 tBq1 tCq1 tVq1
   go_wp2_with fail
   go_roundw
   case rel => exact ⟨k + 1, by omega, by go_num, bq2, by omega, cIq2, cOq2, cHq2, cCq2, E.out⟩
   case measure => simp [intOf]; omega
  ·have E : Hid (allB xs s.cons = true) := Lib.hid (HQ.out.symm.trans (by rw [List.drop_eq_nil_of_le (by omega)]; rfl))
   go_wp2_with fail
   go_ret
   exact ⟨ret_bool (by rw [HR.out, E.out]), be⟩
end Go.Proofs.YthipgpbapdambaaGreat.L
