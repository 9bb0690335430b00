/- Whether constraints and systems hold: the program's functions and their models. -/
import Derived.Test.YtaohghgdjnkgdaaVFor
import Derived.Test.YtaohghgdjnkgdaaSpecOk
namespace Go.Proofs.Ytaohghgdjnkgdaa.L
open Go.RowKit Go.Proofs.Ytaohghgdjnkgdaa.S
set_option linter.unusedVariables false
set_option linter.unusedSimpArgs false

theorem l2val_any (o1 l1 h1 va ts) (lim : Nat) (v : Value) (xs : List Int) (w : World) (t1 : Terms o1 l1 h1 w va ts) (hw1 : h1 ≤ w.heap.size) (t2 : Ints lim w v xs) (hl : lim ≤ w.heap.size) (ha : isAsg xs = true) (hin : linW xs.length ts = true) :
    Calls Try.prog 85 #[.agg #[va], v] w fun e w' => e = .returned (.int .i64 (lval xs ts)) ∧ Below w.heap.size w w' :=
  l2value_any o1 l1 h1 va ts lim v xs w t1 hw1 t2 hl (linW_within' hin).1 ha (linW_within' hin).2

set_option maxRecDepth 100000 in
set_option maxHeartbeats 3200000 in
theorem holdsFor_any (o l h va vb vc) (x : ConC) (lim : Nat) (v : Value) (xs : List Int) (w : World) (ta : Terms o l h w va x.a) (tb : Terms o l h w vb x.b) (tc : Terms o l h w vc x.c) (hw : h ≤ w.heap.size) (ti : Ints lim w v xs) (hl : lim ≤ w.heap.size) (ha : isAsg xs = true) (hc : conW xs.length x = true) :
    Calls Try.prog 83 #[.agg #[va, vb, vc], v] w fun e w' => e = .returned (.bool (holdsB xs x)) ∧ Below w.heap.size w w' := by
  obtain ⟨ga, gb, gc⟩ := conW_parts hc
  obtain ⟨aa, ka, rfl, laa, baa⟩ := ta.shape
  obtain ⟨ab, kb, rfl, lab, bab⟩ := tb.shape
  obtain ⟨ac, kc, rfl, lac, bac⟩ := tc.shape
  obtain ⟨ai, ki, rfl, lai, bai⟩ := ti.shape
  have HA := Lib.hid ha
  have HGA := Lib.hid ga
  have HGB := Lib.hid gb
  have HGC := Lib.hid gc
  clear ha hc ga gb gc
  obtain ⟨p0, p1⟩ := lval_bd xs x.a
  obtain ⟨q0, q1⟩ := lval_bd xs x.b
  go_enter Try.func83, Try.ntmps83
  go_wp2_with fail
  refine name_wp fun w1 hw1 => ?_
  have b1 : Below w.heap.size w w1 := by rw [hw1]; (repeat (first | with_reducible exact Below.refl _ _ | with_reducible assumption | with_reducible refine Below.drew ?_ | with_reducible refine bdrewN ?_ _ | ((with_reducible refine balloc ?_ ?_ _); (focus (first | with_reducible exact Nat.le_refl _ | (simp; done) | omega | (simp; omega) | exact Nat.le_refl _))) | ((with_reducible refine bset ?_ ?_ _); (focus (first | with_reducible exact Nat.le_refl _ | (simp; done) | omega | (simp; omega) | exact Nat.le_refl _)))))
  have z1 : w.heap.size + 1 ≤ w1.heap.size := by rw [hw1]; simp
  have e1 : Below w.heap.size w w1 := by rw [hw1]; (repeat (first | with_reducible exact Below.refl _ _ | with_reducible assumption | with_reducible refine Below.drew ?_ | with_reducible refine bdrewN ?_ _ | ((with_reducible refine balloc ?_ ?_ _); (focus (first | with_reducible exact Nat.le_refl _ | (simp; done) | omega | (simp; omega) | exact Nat.le_refl _))) | ((with_reducible refine bset ?_ ?_ _); (focus (first | with_reducible exact Nat.le_refl _ | (simp; done) | omega | (simp; omega) | exact Nat.le_refl _)))))
  have ca1 : w1.cell? ⟨w.heap.size, 0, none⟩ = some (.slice aa x.a.length ka) := by rw [hw1]; first | (simp; done) | go_simp
  have cb1 : w1.cell? ⟨w.heap.size, 1, none⟩ = some (.slice ab x.b.length kb) := by rw [hw1]; first | (simp; done) | go_simp
  have cc1 : w1.cell? ⟨w.heap.size, 2, none⟩ = some (.slice ac x.c.length kc) := by rw [hw1]; first | (simp; done) | go_simp
  have ta1 := ta.keep e1 (by omega)
  have tb1 := tb.keep e1 (by omega)
  have tc1 := tc.keep e1 (by omega)
  have ti1 := ti.keep e1 (by omega)
  clear hw1
  have dd : Below w1.heap.size w1 w1.drew := (Below.refl _ _).drew
  have zd : w1.heap.size ≤ w1.drew.heap.size := Nat.le_refl _
  have ze : w1.drew.heap.size ≤ w1.heap.size := Nat.le_refl _
  have ga : w1.drew.cell? ⟨w.heap.size, 0, none⟩ = some (.slice aa x.a.length ka) := cell_keep dd ca1
  have gb : w1.drew.cell? ⟨w.heap.size, 1, none⟩ = some (.slice ab x.b.length kb) := cell_keep dd cb1
  have gc : w1.drew.cell? ⟨w.heap.size, 2, none⟩ = some (.slice ac x.c.length kc) := cell_keep dd cc1
  have ua := ta1.keep dd (by omega)
  have ub := tb1.keep dd (by omega)
  have uc := tc1.keep dd (by omega)
  have ui := ti1.keep dd (by omega)
  go_region_held3 (fun w' => w'.cell? ⟨w.heap.size, 0, none⟩ = some (.slice aa x.a.length ka) ∧ w'.cell? ⟨w.heap.size, 1, none⟩ = some (.slice ab x.b.length kb) ∧ w'.cell? ⟨w.heap.size, 2, none⟩ = some (.slice ac x.c.length kc)) (first | exact ⟨ga, gb, gc⟩ | exact ⟨cell_keep j1 (ga), cell_keep j1 (gb), cell_keep j1 (gc)⟩ | exact ⟨cell_keep j2 (cell_keep j1 (ga)), cell_keep j2 (cell_keep j1 (gb)), cell_keep j2 (cell_keep j1 (gc))⟩ | exact ⟨cell_keep j3 (cell_keep j2 (cell_keep j1 (ga))), cell_keep j3 (cell_keep j2 (cell_keep j1 (gb))), cell_keep j3 (cell_keep j2 (cell_keep j1 (gc)))⟩)
    (first
      | (go_at_call_of 86 (Value.agg #[Value.slice aa x.a.length ka]); refine (valueFor_any o l h _ x.a lim _ xs w1.drew ua (by omega) ui (by omega) HA.out HGA.out).mono ?_; rintro e v1 ⟨rfl, j1⟩; have s1 := j1.size)
      | (go_at_call_of 86 (Value.agg #[Value.slice ab x.b.length kb]); refine (valueFor_any o l h _ x.b lim _ xs v1 (ub.keep j1 (by omega)) (by omega) (ui.keep j1 (by omega)) (by omega) HA.out HGB.out).mono ?_; rintro e v2 ⟨rfl, j2⟩; have s2 := j2.size)
      | (go_at_call 110; refine (times_any (lval xs x.a) (lval xs x.b) v2 p0 p1 q0 q1).mono ?_; rintro e v2' ⟨rfl, rfl⟩)
      | (go_at_call_of 86 (Value.agg #[Value.slice ac x.c.length kc]); refine (valueFor_any o l h _ x.c lim _ xs v2 ((uc.keep j1 (by omega)).keep j2 (by omega)) (by omega) ((ui.keep j1 (by omega)).keep j2 (by omega)) (by omega) HA.out HGC.out).mono ?_; rintro e v3 ⟨rfl, j3⟩; have s3 := j3.size))
  have bz : Below w.heap.size w v3 := (((b1.trans (dd.mono (by omega))).trans (j1.mono (by omega))).trans (j2.mono (by omega))).trans (j3.mono (by omega))
  go_wp2_with fail
  go_ret
  exact ⟨ret_bool rfl, bz⟩

set_option maxRecDepth 100000 in
set_option maxHeartbeats 3200000 in
theorem l3holds_any (o l h va vb vc) (x : ConC) (lim : Nat) (v : Value) (xs : List Int) (w : World) (ta : Terms o l h w va x.a) (tb : Terms o l h w vb x.b) (tc : Terms o l h w vc x.c) (hw : h ≤ w.heap.size) (ti : Ints lim w v xs) (hl : lim ≤ w.heap.size) (ha : isAsg xs = true) (hc : conW xs.length x = true) :
    Calls Try.prog 81 #[.agg #[va, vb, vc], v] w fun e w' => e = .returned (.bool (holdsB xs x)) ∧ Below w.heap.size w w' := by
  obtain ⟨ga, gb, gc⟩ := conW_parts hc
  obtain ⟨aa, ka, rfl, laa, baa⟩ := ta.shape
  obtain ⟨ab, kb, rfl, lab, bab⟩ := tb.shape
  obtain ⟨ac, kc, rfl, lac, bac⟩ := tc.shape
  obtain ⟨ai, ki, rfl, lai, bai⟩ := ti.shape
  have HA := Lib.hid ha
  have HGA := Lib.hid ga
  have HGB := Lib.hid gb
  have HGC := Lib.hid gc
  clear ha hc ga gb gc
  obtain ⟨p0, p1⟩ := lval_bd xs x.a
  obtain ⟨q0, q1⟩ := lval_bd xs x.b
  go_enter Try.func81, Try.ntmps81
  go_wp2_with fail
  refine name_wp fun w1 hw1 => ?_
  have b1 : Below w.heap.size w w1 := by rw [hw1]; (repeat (first | with_reducible exact Below.refl _ _ | with_reducible assumption | with_reducible refine Below.drew ?_ | with_reducible refine bdrewN ?_ _ | ((with_reducible refine balloc ?_ ?_ _); (focus (first | with_reducible exact Nat.le_refl _ | (simp; done) | omega | (simp; omega) | exact Nat.le_refl _))) | ((with_reducible refine bset ?_ ?_ _); (focus (first | with_reducible exact Nat.le_refl _ | (simp; done) | omega | (simp; omega) | exact Nat.le_refl _)))))
  have z1 : w.heap.size + 1 ≤ w1.heap.size := by rw [hw1]; simp
  have e1 : Below w.heap.size w w1 := by rw [hw1]; (repeat (first | with_reducible exact Below.refl _ _ | with_reducible assumption | with_reducible refine Below.drew ?_ | with_reducible refine bdrewN ?_ _ | ((with_reducible refine balloc ?_ ?_ _); (focus (first | with_reducible exact Nat.le_refl _ | (simp; done) | omega | (simp; omega) | exact Nat.le_refl _))) | ((with_reducible refine bset ?_ ?_ _); (focus (first | with_reducible exact Nat.le_refl _ | (simp; done) | omega | (simp; omega) | exact Nat.le_refl _)))))
  have ca1 : w1.cell? ⟨w.heap.size, 0, none⟩ = some (.slice aa x.a.length ka) := by rw [hw1]; first | (simp; done) | go_simp
  have cb1 : w1.cell? ⟨w.heap.size, 1, none⟩ = some (.slice ab x.b.length kb) := by rw [hw1]; first | (simp; done) | go_simp
  have cc1 : w1.cell? ⟨w.heap.size, 2, none⟩ = some (.slice ac x.c.length kc) := by rw [hw1]; first | (simp; done) | go_simp
  have ta1 := ta.keep e1 (by omega)
  have tb1 := tb.keep e1 (by omega)
  have tc1 := tc.keep e1 (by omega)
  have ti1 := ti.keep e1 (by omega)
  clear hw1
  have dd : Below w1.heap.size w1 w1.drew := (Below.refl _ _).drew
  have zd : w1.heap.size ≤ w1.drew.heap.size := Nat.le_refl _
  have ze : w1.drew.heap.size ≤ w1.heap.size := Nat.le_refl _
  have ga : w1.drew.cell? ⟨w.heap.size, 0, none⟩ = some (.slice aa x.a.length ka) := cell_keep dd ca1
  have gb : w1.drew.cell? ⟨w.heap.size, 1, none⟩ = some (.slice ab x.b.length kb) := cell_keep dd cb1
  have gc : w1.drew.cell? ⟨w.heap.size, 2, none⟩ = some (.slice ac x.c.length kc) := cell_keep dd cc1
  have ua := ta1.keep dd (by omega)
  have ub := tb1.keep dd (by omega)
  have uc := tc1.keep dd (by omega)
  have ui := ti1.keep dd (by omega)
  go_region_held3 (fun w' => w'.cell? ⟨w.heap.size, 0, none⟩ = some (.slice aa x.a.length ka) ∧ w'.cell? ⟨w.heap.size, 1, none⟩ = some (.slice ab x.b.length kb) ∧ w'.cell? ⟨w.heap.size, 2, none⟩ = some (.slice ac x.c.length kc)) (first | exact ⟨ga, gb, gc⟩ | exact ⟨cell_keep j1 (ga), cell_keep j1 (gb), cell_keep j1 (gc)⟩ | exact ⟨cell_keep j2 (cell_keep j1 (ga)), cell_keep j2 (cell_keep j1 (gb)), cell_keep j2 (cell_keep j1 (gc))⟩ | exact ⟨cell_keep j3 (cell_keep j2 (cell_keep j1 (ga))), cell_keep j3 (cell_keep j2 (cell_keep j1 (gb))), cell_keep j3 (cell_keep j2 (cell_keep j1 (gc)))⟩)
    (first
      | (go_at_call_of 85 (Value.agg #[Value.slice aa x.a.length ka]); refine (l2val_any o l h _ x.a lim _ xs w1.drew ua (by omega) ui (by omega) HA.out HGA.out).mono ?_; rintro e v1 ⟨rfl, j1⟩; have s1 := j1.size)
      | (go_at_call_of 85 (Value.agg #[Value.slice ab x.b.length kb]); refine (l2val_any o l h _ x.b lim _ xs v1 (ub.keep j1 (by omega)) (by omega) (ui.keep j1 (by omega)) (by omega) HA.out HGB.out).mono ?_; rintro e v2 ⟨rfl, j2⟩; have s2 := j2.size)
      | (go_at_call 108; refine (l1mul_any (lval xs x.a) (lval xs x.b) v2 p0 p1 q0 q1).mono ?_; rintro e v2' ⟨rfl, rfl⟩)
      | (go_at_call_of 85 (Value.agg #[Value.slice ac x.c.length kc]); refine (l2val_any o l h _ x.c lim _ xs v2 ((uc.keep j1 (by omega)).keep j2 (by omega)) (by omega) ((ui.keep j1 (by omega)).keep j2 (by omega)) (by omega) HA.out HGC.out).mono ?_; rintro e v3 ⟨rfl, j3⟩; have s3 := j3.size))
  have bz : Below w.heap.size w v3 := (((b1.trans (dd.mono (by omega))).trans (j1.mono (by omega))).trans (j2.mono (by omega))).trans (j3.mono (by omega))
  go_wp2_with fail
  go_ret
  exact ⟨ret_bool rfl, bz⟩

set_option maxRecDepth 100000 in
set_option maxHeartbeats 3200000 in
theorem hold_impl (o l h va vb vc) (x : ConC) (lim : Nat) (v : Value) (xs : List Int) (w : World) (ta : Terms o l h w va x.a) (tb : Terms o l h w vb x.b) (tc : Terms o l h w vc x.c) (hw : h ≤ w.heap.size) (ti : Ints lim w v xs) (hl : lim ≤ w.heap.size) (ni : xs.length ≤ 1048576) :
    Calls Try.prog 27 #[.agg #[va, vb, vc], v] w fun e w' => e = .returned (.bool (conHold xs x)) ∧ Below w.heap.size w w' := by
  obtain ⟨aa, ka, rfl, laa, baa⟩ := ta.shape
  obtain ⟨ab, kb, rfl, lab, bab⟩ := tb.shape
  obtain ⟨ac, kc, rfl, lac, bac⟩ := tc.shape
  obtain ⟨ai, ki, rfl, lai, bai⟩ := ti.shape
  cases h1 : isAsg xs
  · have HR : Hid (conHold xs x = false) := Lib.hid (by simp [conHold, h1])
    have H1 := Lib.hid h1
    clear h1
    go_enter Try.func27, Try.ntmps27
    go_wp2_with fail
    refine name_call fun w1 hw1 => ?_
    have b1 : Below w.heap.size w w1 := by rw [hw1]; (repeat (first | with_reducible exact Below.refl _ _ | with_reducible assumption | with_reducible refine Below.drew ?_ | with_reducible refine bdrewN ?_ _ | ((with_reducible refine balloc ?_ ?_ _); (focus (first | with_reducible exact Nat.le_refl _ | (simp; done) | omega | (simp; omega) | exact Nat.le_refl _))) | ((with_reducible refine bset ?_ ?_ _); (focus (first | with_reducible exact Nat.le_refl _ | (simp; done) | omega | (simp; omega) | exact Nat.le_refl _)))))
    have z1 : w.heap.size + 1 ≤ w1.heap.size := by rw [hw1]; simp
    have e1 : Below w.heap.size w w1 := by rw [hw1]; (repeat (first | with_reducible exact Below.refl _ _ | with_reducible assumption | with_reducible refine Below.drew ?_ | with_reducible refine bdrewN ?_ _ | ((with_reducible refine balloc ?_ ?_ _); (focus (first | with_reducible exact Nat.le_refl _ | (simp; done) | omega | (simp; omega) | exact Nat.le_refl _))) | ((with_reducible refine bset ?_ ?_ _); (focus (first | with_reducible exact Nat.le_refl _ | (simp; done) | omega | (simp; omega) | exact Nat.le_refl _)))))
    have ca1 : w1.cell? ⟨w.heap.size, 0, none⟩ = some (.slice aa x.a.length ka) := by rw [hw1]; first | (simp; done) | go_simp
    have cb1 : w1.cell? ⟨w.heap.size, 1, none⟩ = some (.slice ab x.b.length kb) := by rw [hw1]; first | (simp; done) | go_simp
    have cc1 : w1.cell? ⟨w.heap.size, 2, none⟩ = some (.slice ac x.c.length kc) := by rw [hw1]; first | (simp; done) | go_simp
    have ta1 := ta.keep e1 (by omega)
    have tb1 := tb.keep e1 (by omega)
    have tc1 := tc.keep e1 (by omega)
    have ti1 := ti.keep e1 (by omega)
    clear hw1
    refine (asg_impl lim _ xs _ ti1).mono ?_; rw [H1.out]; rintro e w' ⟨rfl, rfl⟩
    go_wp2_with fail
    go_ret
    exact ⟨ret_bool HR.out.symm, b1⟩
  obtain ⟨nx, -⟩ := asg_fits h1
  cases h2 : conW xs.length x
  · have HR : Hid (conHold xs x = false) := Lib.hid (by simp [conHold, h2])
    have H1 := Lib.hid h1
    have H2 := Lib.hid h2
    clear h1 h2
    go_enter Try.func27, Try.ntmps27
    go_wp2_with fail
    refine name_call fun w1 hw1 => ?_
    have b1 : Below w.heap.size w w1 := by rw [hw1]; (repeat (first | with_reducible exact Below.refl _ _ | with_reducible assumption | with_reducible refine Below.drew ?_ | with_reducible refine bdrewN ?_ _ | ((with_reducible refine balloc ?_ ?_ _); (focus (first | with_reducible exact Nat.le_refl _ | (simp; done) | omega | (simp; omega) | exact Nat.le_refl _))) | ((with_reducible refine bset ?_ ?_ _); (focus (first | with_reducible exact Nat.le_refl _ | (simp; done) | omega | (simp; omega) | exact Nat.le_refl _)))))
    have z1 : w.heap.size + 1 ≤ w1.heap.size := by rw [hw1]; simp
    have e1 : Below w.heap.size w w1 := by rw [hw1]; (repeat (first | with_reducible exact Below.refl _ _ | with_reducible assumption | with_reducible refine Below.drew ?_ | with_reducible refine bdrewN ?_ _ | ((with_reducible refine balloc ?_ ?_ _); (focus (first | with_reducible exact Nat.le_refl _ | (simp; done) | omega | (simp; omega) | exact Nat.le_refl _))) | ((with_reducible refine bset ?_ ?_ _); (focus (first | with_reducible exact Nat.le_refl _ | (simp; done) | omega | (simp; omega) | exact Nat.le_refl _)))))
    have ca1 : w1.cell? ⟨w.heap.size, 0, none⟩ = some (.slice aa x.a.length ka) := by rw [hw1]; first | (simp; done) | go_simp
    have cb1 : w1.cell? ⟨w.heap.size, 1, none⟩ = some (.slice ab x.b.length kb) := by rw [hw1]; first | (simp; done) | go_simp
    have cc1 : w1.cell? ⟨w.heap.size, 2, none⟩ = some (.slice ac x.c.length kc) := by rw [hw1]; first | (simp; done) | go_simp
    have ta1 := ta.keep e1 (by omega)
    have tb1 := tb.keep e1 (by omega)
    have tc1 := tc.keep e1 (by omega)
    have ti1 := ti.keep e1 (by omega)
    clear hw1
    refine (asg_impl lim _ xs _ ti1).mono ?_; rw [H1.out]; rintro e w' ⟨rfl, rfl⟩
    have lca1 : w.heap.size < w1.heap.size := World.block_lt_of_cell? _ _ ca1
    go_wp2_with fail
    refine name_call fun w2 hw2 => ?_
    have b2 : Below w.heap.size w w2 := by rw [hw2]; (repeat (first | with_reducible exact Below.refl _ _ | with_reducible assumption | with_reducible refine Below.drew ?_ | with_reducible refine bdrewN ?_ _ | ((with_reducible refine balloc ?_ ?_ _); (focus (first | with_reducible exact Nat.le_refl _ | (simp; done) | omega | (simp; omega) | exact Nat.le_refl _))) | ((with_reducible refine bset ?_ ?_ _); (focus (first | with_reducible exact Nat.le_refl _ | (simp; done) | omega | (simp; omega) | exact Nat.le_refl _)))))
    have z2 : w1.heap.size + 0 ≤ w2.heap.size := by rw [hw2]; simp
    have e2 : Below w1.heap.size w1 w2 := by rw [hw2]; (repeat (first | with_reducible exact Below.refl _ _ | with_reducible assumption | with_reducible refine Below.drew ?_ | with_reducible refine bdrewN ?_ _ | ((with_reducible refine balloc ?_ ?_ _); (focus (first | with_reducible exact Nat.le_refl _ | (simp; done) | omega | (simp; omega) | exact Nat.le_refl _))) | ((with_reducible refine bset ?_ ?_ _); (focus (first | with_reducible exact Nat.le_refl _ | (simp; done) | omega | (simp; omega) | exact Nat.le_refl _)))))
    have ca2 := cell_keep e2 ca1
    have cb2 := cell_keep e2 cb1
    have cc2 := cell_keep e2 cc1
    have ta2 := ta1.keep e2 (by omega)
    have tb2 := tb1.keep e2 (by omega)
    have tc2 := tc1.keep e2 (by omega)
    have ti2 := ti1.keep e2 (by omega)
    clear hw2 lca1 ca1 cb1 cc1 ta1 tb1 tc1 ti1
    refine (conWithin_any o l h _ _ _ x xs.length _ ta2 tb2 tc2 (by omega)).mono ?_; rw [H2.out]; rintro e w3 ⟨rfl, f3⟩
    have b3 := b2.trans (f3.mono (by omega))
    have z3 := f3.size
    have ca3 := cell_keep f3 ca2
    have cb3 := cell_keep f3 cb2
    have cc3 := cell_keep f3 cc2
    have ta3 := ta2.keep f3 (by omega)
    have tb3 := tb2.keep f3 (by omega)
    have tc3 := tc2.keep f3 (by omega)
    have ti3 := ti2.keep f3 (by omega)
    clear ca2 cb2 cc2 ta2 tb2 tc2 ti2
    go_wp2_with fail
    go_ret
    exact ⟨ret_bool HR.out.symm, b3⟩
  · have HR : Hid (conHold xs x = holdsB xs x) := Lib.hid (by simp [conHold, h1, h2])
    have H1 := Lib.hid h1
    have H2 := Lib.hid h2
    clear h1 h2
    go_enter Try.func27, Try.ntmps27
    go_wp2_with fail
    refine name_call fun w1 hw1 => ?_
    have b1 : Below w.heap.size w w1 := by rw [hw1]; (repeat (first | with_reducible exact Below.refl _ _ | with_reducible assumption | with_reducible refine Below.drew ?_ | with_reducible refine bdrewN ?_ _ | ((with_reducible refine balloc ?_ ?_ _); (focus (first | with_reducible exact Nat.le_refl _ | (simp; done) | omega | (simp; omega) | exact Nat.le_refl _))) | ((with_reducible refine bset ?_ ?_ _); (focus (first | with_reducible exact Nat.le_refl _ | (simp; done) | omega | (simp; omega) | exact Nat.le_refl _)))))
    have z1 : w.heap.size + 1 ≤ w1.heap.size := by rw [hw1]; simp
    have e1 : Below w.heap.size w w1 := by rw [hw1]; (repeat (first | with_reducible exact Below.refl _ _ | with_reducible assumption | with_reducible refine Below.drew ?_ | with_reducible refine bdrewN ?_ _ | ((with_reducible refine balloc ?_ ?_ _); (focus (first | with_reducible exact Nat.le_refl _ | (simp; done) | omega | (simp; omega) | exact Nat.le_refl _))) | ((with_reducible refine bset ?_ ?_ _); (focus (first | with_reducible exact Nat.le_refl _ | (simp; done) | omega | (simp; omega) | exact Nat.le_refl _)))))
    have ca1 : w1.cell? ⟨w.heap.size, 0, none⟩ = some (.slice aa x.a.length ka) := by rw [hw1]; first | (simp; done) | go_simp
    have cb1 : w1.cell? ⟨w.heap.size, 1, none⟩ = some (.slice ab x.b.length kb) := by rw [hw1]; first | (simp; done) | go_simp
    have cc1 : w1.cell? ⟨w.heap.size, 2, none⟩ = some (.slice ac x.c.length kc) := by rw [hw1]; first | (simp; done) | go_simp
    have ta1 := ta.keep e1 (by omega)
    have tb1 := tb.keep e1 (by omega)
    have tc1 := tc.keep e1 (by omega)
    have ti1 := ti.keep e1 (by omega)
    clear hw1
    refine (asg_impl lim _ xs _ ti1).mono ?_; rw [H1.out]; rintro e w' ⟨rfl, rfl⟩
    have lca1 : w.heap.size < w1.heap.size := World.block_lt_of_cell? _ _ ca1
    go_wp2_with fail
    refine name_call fun w2 hw2 => ?_
    have b2 : Below w.heap.size w w2 := by rw [hw2]; (repeat (first | with_reducible exact Below.refl _ _ | with_reducible assumption | with_reducible refine Below.drew ?_ | with_reducible refine bdrewN ?_ _ | ((with_reducible refine balloc ?_ ?_ _); (focus (first | with_reducible exact Nat.le_refl _ | (simp; done) | omega | (simp; omega) | exact Nat.le_refl _))) | ((with_reducible refine bset ?_ ?_ _); (focus (first | with_reducible exact Nat.le_refl _ | (simp; done) | omega | (simp; omega) | exact Nat.le_refl _)))))
    have z2 : w1.heap.size + 0 ≤ w2.heap.size := by rw [hw2]; simp
    have e2 : Below w1.heap.size w1 w2 := by rw [hw2]; (repeat (first | with_reducible exact Below.refl _ _ | with_reducible assumption | with_reducible refine Below.drew ?_ | with_reducible refine bdrewN ?_ _ | ((with_reducible refine balloc ?_ ?_ _); (focus (first | with_reducible exact Nat.le_refl _ | (simp; done) | omega | (simp; omega) | exact Nat.le_refl _))) | ((with_reducible refine bset ?_ ?_ _); (focus (first | with_reducible exact Nat.le_refl _ | (simp; done) | omega | (simp; omega) | exact Nat.le_refl _)))))
    have ca2 := cell_keep e2 ca1
    have cb2 := cell_keep e2 cb1
    have cc2 := cell_keep e2 cc1
    have ta2 := ta1.keep e2 (by omega)
    have tb2 := tb1.keep e2 (by omega)
    have tc2 := tc1.keep e2 (by omega)
    have ti2 := ti1.keep e2 (by omega)
    clear hw2 lca1 ca1 cb1 cc1 ta1 tb1 tc1 ti1
    refine (conWithin_any o l h _ _ _ x xs.length _ ta2 tb2 tc2 (by omega)).mono ?_; rw [H2.out]; rintro e w3 ⟨rfl, f3⟩
    have b3 := b2.trans (f3.mono (by omega))
    have z3 := f3.size
    have ca3 := cell_keep f3 ca2
    have cb3 := cell_keep f3 cb2
    have cc3 := cell_keep f3 cc2
    have ta3 := ta2.keep f3 (by omega)
    have tb3 := tb2.keep f3 (by omega)
    have tc3 := tc2.keep f3 (by omega)
    have ti3 := ti2.keep f3 (by omega)
    clear ca2 cb2 cc2 ta2 tb2 tc2 ti2
    have lca3 : w.heap.size < w3.heap.size := World.block_lt_of_cell? _ _ ca3
    go_wp2_with fail
    refine name_call fun w4 hw4 => ?_
    have b4 : Below w.heap.size w w4 := by rw [hw4]; (repeat (first | with_reducible exact Below.refl _ _ | with_reducible assumption | with_reducible refine Below.drew ?_ | with_reducible refine bdrewN ?_ _ | ((with_reducible refine balloc ?_ ?_ _); (focus (first | with_reducible exact Nat.le_refl _ | (simp; done) | omega | (simp; omega) | exact Nat.le_refl _))) | ((with_reducible refine bset ?_ ?_ _); (focus (first | with_reducible exact Nat.le_refl _ | (simp; done) | omega | (simp; omega) | exact Nat.le_refl _)))))
    have z4 : w3.heap.size + 0 ≤ w4.heap.size := by rw [hw4]; simp
    have e4 : Below w3.heap.size w3 w4 := by rw [hw4]; (repeat (first | with_reducible exact Below.refl _ _ | with_reducible assumption | with_reducible refine Below.drew ?_ | with_reducible refine bdrewN ?_ _ | ((with_reducible refine balloc ?_ ?_ _); (focus (first | with_reducible exact Nat.le_refl _ | (simp; done) | omega | (simp; omega) | exact Nat.le_refl _))) | ((with_reducible refine bset ?_ ?_ _); (focus (first | with_reducible exact Nat.le_refl _ | (simp; done) | omega | (simp; omega) | exact Nat.le_refl _)))))
    have ca4 := cell_keep e4 ca3
    have cb4 := cell_keep e4 cb3
    have cc4 := cell_keep e4 cc3
    have ta4 := ta3.keep e4 (by omega)
    have tb4 := tb3.keep e4 (by omega)
    have tc4 := tc3.keep e4 (by omega)
    have ti4 := ti3.keep e4 (by omega)
    clear hw4 lca3 ca3 cb3 cc3 ta3 tb3 tc3 ti3
    refine (holdsFor_any o l h _ _ _ x lim _ xs _ ta4 tb4 tc4 (by omega) ti4 (by omega) H1.out H2.out).mono ?_; rintro e w5 ⟨rfl, f5⟩
    have b5 := b4.trans (f5.mono (by omega))
    have z5 := f5.size
    have ca5 := cell_keep f5 ca4
    have cb5 := cell_keep f5 cb4
    have cc5 := cell_keep f5 cc4
    have ta5 := ta4.keep f5 (by omega)
    have tb5 := tb4.keep f5 (by omega)
    have tc5 := tc4.keep f5 (by omega)
    have ti5 := ti4.keep f5 (by omega)
    clear ca4 cb4 cc4 ta4 tb4 tc4 ti4
    go_wp2_with fail
    go_ret
    exact ⟨ret_bool HR.out.symm, b5⟩

set_option maxRecDepth 100000 in
set_option maxHeartbeats 3200000 in
theorem hold_spec (o l h va vb vc) (x : ConC) (lim : Nat) (v : Value) (xs : List Int) (w : World) (ta : Terms o l h w va x.a) (tb : Terms o l h w vb x.b) (tc : Terms o l h w vc x.c) (hw : h ≤ w.heap.size) (ti : Ints lim w v xs) (hl : lim ≤ w.heap.size) (ni : xs.length ≤ 1048576) :
    Calls Try.prog 24 #[.agg #[va, vb, vc], v] w fun e w' => e = .returned (.bool (conHold xs x)) ∧ Below w.heap.size w w' := by
  obtain ⟨aa, ka, rfl, laa, baa⟩ := ta.shape
  obtain ⟨ab, kb, rfl, lab, bab⟩ := tb.shape
  obtain ⟨ac, kc, rfl, lac, bac⟩ := tc.shape
  obtain ⟨ai, ki, rfl, lai, bai⟩ := ti.shape
  cases h1 : isAsg xs
  · have HR : Hid (conHold xs x = false) := Lib.hid (by simp [conHold, h1])
    have H1 := Lib.hid h1
    clear h1
    go_enter Try.func24, Try.ntmps24
    go_wp2_with fail
    refine name_call fun w1 hw1 => ?_
    have b1 : Below w.heap.size w w1 := by rw [hw1]; (repeat (first | with_reducible exact Below.refl _ _ | with_reducible assumption | with_reducible refine Below.drew ?_ | with_reducible refine bdrewN ?_ _ | ((with_reducible refine balloc ?_ ?_ _); (focus (first | with_reducible exact Nat.le_refl _ | (simp; done) | omega | (simp; omega) | exact Nat.le_refl _))) | ((with_reducible refine bset ?_ ?_ _); (focus (first | with_reducible exact Nat.le_refl _ | (simp; done) | omega | (simp; omega) | exact Nat.le_refl _)))))
    have z1 : w.heap.size + 1 ≤ w1.heap.size := by rw [hw1]; simp
    have e1 : Below w.heap.size w w1 := by rw [hw1]; (repeat (first | with_reducible exact Below.refl _ _ | with_reducible assumption | with_reducible refine Below.drew ?_ | with_reducible refine bdrewN ?_ _ | ((with_reducible refine balloc ?_ ?_ _); (focus (first | with_reducible exact Nat.le_refl _ | (simp; done) | omega | (simp; omega) | exact Nat.le_refl _))) | ((with_reducible refine bset ?_ ?_ _); (focus (first | with_reducible exact Nat.le_refl _ | (simp; done) | omega | (simp; omega) | exact Nat.le_refl _)))))
    have ca1 : w1.cell? ⟨w.heap.size, 0, none⟩ = some (.slice aa x.a.length ka) := by rw [hw1]; first | (simp; done) | go_simp
    have cb1 : w1.cell? ⟨w.heap.size, 1, none⟩ = some (.slice ab x.b.length kb) := by rw [hw1]; first | (simp; done) | go_simp
    have cc1 : w1.cell? ⟨w.heap.size, 2, none⟩ = some (.slice ac x.c.length kc) := by rw [hw1]; first | (simp; done) | go_simp
    have ta1 := ta.keep e1 (by omega)
    have tb1 := tb.keep e1 (by omega)
    have tc1 := tc.keep e1 (by omega)
    have ti1 := ti.keep e1 (by omega)
    clear hw1
    refine (asg_spec lim _ xs _ ti1).mono ?_; rw [H1.out]; rintro e w' ⟨rfl, rfl⟩
    go_wp2_with fail
    go_ret
    exact ⟨ret_bool HR.out.symm, b1⟩
  obtain ⟨nx, -⟩ := asg_fits h1
  cases h2 : conW xs.length x
  · have HR : Hid (conHold xs x = false) := Lib.hid (by simp [conHold, h2])
    have H1 := Lib.hid h1
    have H2 := Lib.hid h2
    clear h1 h2
    go_enter Try.func24, Try.ntmps24
    go_wp2_with fail
    refine name_call fun w1 hw1 => ?_
    have b1 : Below w.heap.size w w1 := by rw [hw1]; (repeat (first | with_reducible exact Below.refl _ _ | with_reducible assumption | with_reducible refine Below.drew ?_ | with_reducible refine bdrewN ?_ _ | ((with_reducible refine balloc ?_ ?_ _); (focus (first | with_reducible exact Nat.le_refl _ | (simp; done) | omega | (simp; omega) | exact Nat.le_refl _))) | ((with_reducible refine bset ?_ ?_ _); (focus (first | with_reducible exact Nat.le_refl _ | (simp; done) | omega | (simp; omega) | exact Nat.le_refl _)))))
    have z1 : w.heap.size + 1 ≤ w1.heap.size := by rw [hw1]; simp
    have e1 : Below w.heap.size w w1 := by rw [hw1]; (repeat (first | with_reducible exact Below.refl _ _ | with_reducible assumption | with_reducible refine Below.drew ?_ | with_reducible refine bdrewN ?_ _ | ((with_reducible refine balloc ?_ ?_ _); (focus (first | with_reducible exact Nat.le_refl _ | (simp; done) | omega | (simp; omega) | exact Nat.le_refl _))) | ((with_reducible refine bset ?_ ?_ _); (focus (first | with_reducible exact Nat.le_refl _ | (simp; done) | omega | (simp; omega) | exact Nat.le_refl _)))))
    have ca1 : w1.cell? ⟨w.heap.size, 0, none⟩ = some (.slice aa x.a.length ka) := by rw [hw1]; first | (simp; done) | go_simp
    have cb1 : w1.cell? ⟨w.heap.size, 1, none⟩ = some (.slice ab x.b.length kb) := by rw [hw1]; first | (simp; done) | go_simp
    have cc1 : w1.cell? ⟨w.heap.size, 2, none⟩ = some (.slice ac x.c.length kc) := by rw [hw1]; first | (simp; done) | go_simp
    have ta1 := ta.keep e1 (by omega)
    have tb1 := tb.keep e1 (by omega)
    have tc1 := tc.keep e1 (by omega)
    have ti1 := ti.keep e1 (by omega)
    clear hw1
    refine (asg_spec lim _ xs _ ti1).mono ?_; rw [H1.out]; rintro e w' ⟨rfl, rfl⟩
    have lca1 : w.heap.size < w1.heap.size := World.block_lt_of_cell? _ _ ca1
    go_wp2_with fail
    refine name_call fun w2 hw2 => ?_
    have b2 : Below w.heap.size w w2 := by rw [hw2]; (repeat (first | with_reducible exact Below.refl _ _ | with_reducible assumption | with_reducible refine Below.drew ?_ | with_reducible refine bdrewN ?_ _ | ((with_reducible refine balloc ?_ ?_ _); (focus (first | with_reducible exact Nat.le_refl _ | (simp; done) | omega | (simp; omega) | exact Nat.le_refl _))) | ((with_reducible refine bset ?_ ?_ _); (focus (first | with_reducible exact Nat.le_refl _ | (simp; done) | omega | (simp; omega) | exact Nat.le_refl _)))))
    have z2 : w1.heap.size + 0 ≤ w2.heap.size := by rw [hw2]; simp
    have e2 : Below w1.heap.size w1 w2 := by rw [hw2]; (repeat (first | with_reducible exact Below.refl _ _ | with_reducible assumption | with_reducible refine Below.drew ?_ | with_reducible refine bdrewN ?_ _ | ((with_reducible refine balloc ?_ ?_ _); (focus (first | with_reducible exact Nat.le_refl _ | (simp; done) | omega | (simp; omega) | exact Nat.le_refl _))) | ((with_reducible refine bset ?_ ?_ _); (focus (first | with_reducible exact Nat.le_refl _ | (simp; done) | omega | (simp; omega) | exact Nat.le_refl _)))))
    have ca2 := cell_keep e2 ca1
    have cb2 := cell_keep e2 cb1
    have cc2 := cell_keep e2 cc1
    have ta2 := ta1.keep e2 (by omega)
    have tb2 := tb1.keep e2 (by omega)
    have tc2 := tc1.keep e2 (by omega)
    have ti2 := ti1.keep e2 (by omega)
    clear hw2 lca1 ca1 cb1 cc1 ta1 tb1 tc1 ti1
    refine (l3con_any o l h _ _ _ x xs.length _ ta2 tb2 tc2 (by omega) (by omega) (by omega)).mono ?_; rw [H2.out]; rintro e w3 ⟨rfl, f3⟩
    have b3 := b2.trans (f3.mono (by omega))
    have z3 := f3.size
    have ca3 := cell_keep f3 ca2
    have cb3 := cell_keep f3 cb2
    have cc3 := cell_keep f3 cc2
    have ta3 := ta2.keep f3 (by omega)
    have tb3 := tb2.keep f3 (by omega)
    have tc3 := tc2.keep f3 (by omega)
    have ti3 := ti2.keep f3 (by omega)
    clear ca2 cb2 cc2 ta2 tb2 tc2 ti2
    go_wp2_with fail
    go_ret
    exact ⟨ret_bool HR.out.symm, b3⟩
  · have HR : Hid (conHold xs x = holdsB xs x) := Lib.hid (by simp [conHold, h1, h2])
    have H1 := Lib.hid h1
    have H2 := Lib.hid h2
    clear h1 h2
    go_enter Try.func24, Try.ntmps24
    go_wp2_with fail
    refine name_call fun w1 hw1 => ?_
    have b1 : Below w.heap.size w w1 := by rw [hw1]; (repeat (first | with_reducible exact Below.refl _ _ | with_reducible assumption | with_reducible refine Below.drew ?_ | with_reducible refine bdrewN ?_ _ | ((with_reducible refine balloc ?_ ?_ _); (focus (first | with_reducible exact Nat.le_refl _ | (simp; done) | omega | (simp; omega) | exact Nat.le_refl _))) | ((with_reducible refine bset ?_ ?_ _); (focus (first | with_reducible exact Nat.le_refl _ | (simp; done) | omega | (simp; omega) | exact Nat.le_refl _)))))
    have z1 : w.heap.size + 1 ≤ w1.heap.size := by rw [hw1]; simp
    have e1 : Below w.heap.size w w1 := by rw [hw1]; (repeat (first | with_reducible exact Below.refl _ _ | with_reducible assumption | with_reducible refine Below.drew ?_ | with_reducible refine bdrewN ?_ _ | ((with_reducible refine balloc ?_ ?_ _); (focus (first | with_reducible exact Nat.le_refl _ | (simp; done) | omega | (simp; omega) | exact Nat.le_refl _))) | ((with_reducible refine bset ?_ ?_ _); (focus (first | with_reducible exact Nat.le_refl _ | (simp; done) | omega | (simp; omega) | exact Nat.le_refl _)))))
    have ca1 : w1.cell? ⟨w.heap.size, 0, none⟩ = some (.slice aa x.a.length ka) := by rw [hw1]; first | (simp; done) | go_simp
    have cb1 : w1.cell? ⟨w.heap.size, 1, none⟩ = some (.slice ab x.b.length kb) := by rw [hw1]; first | (simp; done) | go_simp
    have cc1 : w1.cell? ⟨w.heap.size, 2, none⟩ = some (.slice ac x.c.length kc) := by rw [hw1]; first | (simp; done) | go_simp
    have ta1 := ta.keep e1 (by omega)
    have tb1 := tb.keep e1 (by omega)
    have tc1 := tc.keep e1 (by omega)
    have ti1 := ti.keep e1 (by omega)
    clear hw1
    refine (asg_spec lim _ xs _ ti1).mono ?_; rw [H1.out]; rintro e w' ⟨rfl, rfl⟩
    have lca1 : w.heap.size < w1.heap.size := World.block_lt_of_cell? _ _ ca1
    go_wp2_with fail
    refine name_call fun w2 hw2 => ?_
    have b2 : Below w.heap.size w w2 := by rw [hw2]; (repeat (first | with_reducible exact Below.refl _ _ | with_reducible assumption | with_reducible refine Below.drew ?_ | with_reducible refine bdrewN ?_ _ | ((with_reducible refine balloc ?_ ?_ _); (focus (first | with_reducible exact Nat.le_refl _ | (simp; done) | omega | (simp; omega) | exact Nat.le_refl _))) | ((with_reducible refine bset ?_ ?_ _); (focus (first | with_reducible exact Nat.le_refl _ | (simp; done) | omega | (simp; omega) | exact Nat.le_refl _)))))
    have z2 : w1.heap.size + 0 ≤ w2.heap.size := by rw [hw2]; simp
    have e2 : Below w1.heap.size w1 w2 := by rw [hw2]; (repeat (first | with_reducible exact Below.refl _ _ | with_reducible assumption | with_reducible refine Below.drew ?_ | with_reducible refine bdrewN ?_ _ | ((with_reducible refine balloc ?_ ?_ _); (focus (first | with_reducible exact Nat.le_refl _ | (simp; done) | omega | (simp; omega) | exact Nat.le_refl _))) | ((with_reducible refine bset ?_ ?_ _); (focus (first | with_reducible exact Nat.le_refl _ | (simp; done) | omega | (simp; omega) | exact Nat.le_refl _)))))
    have ca2 := cell_keep e2 ca1
    have cb2 := cell_keep e2 cb1
    have cc2 := cell_keep e2 cc1
    have ta2 := ta1.keep e2 (by omega)
    have tb2 := tb1.keep e2 (by omega)
    have tc2 := tc1.keep e2 (by omega)
    have ti2 := ti1.keep e2 (by omega)
    clear hw2 lca1 ca1 cb1 cc1 ta1 tb1 tc1 ti1
    refine (l3con_any o l h _ _ _ x xs.length _ ta2 tb2 tc2 (by omega) (by omega) (by omega)).mono ?_; rw [H2.out]; rintro e w3 ⟨rfl, f3⟩
    have b3 := b2.trans (f3.mono (by omega))
    have z3 := f3.size
    have ca3 := cell_keep f3 ca2
    have cb3 := cell_keep f3 cb2
    have cc3 := cell_keep f3 cc2
    have ta3 := ta2.keep f3 (by omega)
    have tb3 := tb2.keep f3 (by omega)
    have tc3 := tc2.keep f3 (by omega)
    have ti3 := ti2.keep f3 (by omega)
    clear ca2 cb2 cc2 ta2 tb2 tc2 ti2
    have lca3 : w.heap.size < w3.heap.size := World.block_lt_of_cell? _ _ ca3
    go_wp2_with fail
    refine name_call fun w4 hw4 => ?_
    have b4 : Below w.heap.size w w4 := by rw [hw4]; (repeat (first | with_reducible exact Below.refl _ _ | with_reducible assumption | with_reducible refine Below.drew ?_ | with_reducible refine bdrewN ?_ _ | ((with_reducible refine balloc ?_ ?_ _); (focus (first | with_reducible exact Nat.le_refl _ | (simp; done) | omega | (simp; omega) | exact Nat.le_refl _))) | ((with_reducible refine bset ?_ ?_ _); (focus (first | with_reducible exact Nat.le_refl _ | (simp; done) | omega | (simp; omega) | exact Nat.le_refl _)))))
    have z4 : w3.heap.size + 0 ≤ w4.heap.size := by rw [hw4]; simp
    have e4 : Below w3.heap.size w3 w4 := by rw [hw4]; (repeat (first | with_reducible exact Below.refl _ _ | with_reducible assumption | with_reducible refine Below.drew ?_ | with_reducible refine bdrewN ?_ _ | ((with_reducible refine balloc ?_ ?_ _); (focus (first | with_reducible exact Nat.le_refl _ | (simp; done) | omega | (simp; omega) | exact Nat.le_refl _))) | ((with_reducible refine bset ?_ ?_ _); (focus (first | with_reducible exact Nat.le_refl _ | (simp; done) | omega | (simp; omega) | exact Nat.le_refl _)))))
    have ca4 := cell_keep e4 ca3
    have cb4 := cell_keep e4 cb3
    have cc4 := cell_keep e4 cc3
    have ta4 := ta3.keep e4 (by omega)
    have tb4 := tb3.keep e4 (by omega)
    have tc4 := tc3.keep e4 (by omega)
    have ti4 := ti3.keep e4 (by omega)
    clear hw4 lca3 ca3 cb3 cc3 ta3 tb3 tc3 ti3
    refine (l3holds_any o l h _ _ _ x lim _ xs _ ta4 tb4 tc4 (by omega) ti4 (by omega) H1.out H2.out).mono ?_; rintro e w5 ⟨rfl, f5⟩
    have b5 := b4.trans (f5.mono (by omega))
    have z5 := f5.size
    have ca5 := cell_keep f5 ca4
    have cb5 := cell_keep f5 cb4
    have cc5 := cell_keep f5 cc4
    have ta5 := ta4.keep f5 (by omega)
    have tb5 := tb4.keep f5 (by omega)
    have tc5 := tc4.keep f5 (by omega)
    have ti5 := ti4.keep f5 (by omega)
    clear ca4 cb4 cc4 ta4 tb4 tc4 ti4
    go_wp2_with fail
    go_ret
    exact ⟨ret_bool HR.out.symm, b5⟩
end Go.Proofs.Ytaohghgdjnkgdaa.L
