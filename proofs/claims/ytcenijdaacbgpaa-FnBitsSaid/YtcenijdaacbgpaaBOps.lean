/- Sums, differences and multiples of combinations, and the builder's methods (written by tools/gen/bops.py). -/
import Derived.Test.YtcenijdaacbgpaaB11
import Derived.Test.YtcenijdaacbgpaaB16
namespace Go.Proofs.Ytcenijdaacbgpaa.L
open Go.RowKit Go.Proofs.Ytcenijdaacbgpaa.S
set_option linter.unusedVariables false
set_option linter.unusedSimpArgs false


set_option maxRecDepth 100000 in
set_option maxHeartbeats 1600000 in
theorem plus_any (o1 l1 h1 va xs) (o2 l2 h2 vb ys) (w : World) (t1 : Terms o1 l1 h1 w va xs) (hw1 : h1 ≤ w.heap.size) (t2 : Terms o2 l2 h2 w vb ys) (hw2 : h2 ≤ w.heap.size) :
    Calls Try.prog 59 #[.agg #[va], .agg #[vb]] w fun e w' => ∃ u, e = .returned (.agg #[u]) ∧ Below w.heap.size w w' ∧ Terms true w.heap.size w'.heap.size w' u (lcomb 1 xs ys) := by
  obtain ⟨a, ka, rfl, la, ba⟩ := t1.shape
  obtain ⟨b, kb, rfl, lb, bb⟩ := t2.shape
  go_enter Try.func59, Try.ntmps59
  go_wp2_with fail
  refine name_call fun w1 hw1' => ?_
  have b1 : Below w.heap.size w w1 := by rw [hw1']; (repeat (with_reducible first | exact bR _ _ | assumption | refine bD ?_ | refine bN ?_ _ | refine bA ?_ _ | refine bS ?_ _))
  have z1 : w.heap.size + 3 ≤ w1.heap.size := by rw [hw1']; simp
  have cR1 : w1.cell? ⟨w.heap.size + 1 + 1, 0, none⟩ = some (.slice none 0 0) := by rw [hw1']; first | (simp; done) | go_simp
  have fR1 : w1.frozen? ⟨w.heap.size + 1 + 1, 0, none⟩ = false := by rw [hw1']; first | (simp; done) | go_simp
  clear hw1'
  refine (linAdd_impl _ _ _ _ xs _ _ _ _ ys w1 (t1.keep b1 hw1) (by omega) (t2.keep b1 hw2) (by omega)).mono ?_; rintro e w2 ⟨u, rfl, f2, tq⟩
  obtain ⟨q, kq, rfl, lq, bq⟩ := tq.shape
  have b2 := b1.trans (f2.mono (by omega))
  have z2 := f2.size
  have l2 : w.heap.size + 1 + 1 < w2.heap.size := by omega
  have cR2 := cell_keep f2 cR1
  have fR2 := (f2.frozen (p := ⟨w.heap.size + 1 + 1, 0, none⟩) (show w.heap.size + 1 + 1 < w1.heap.size by omega)).trans fR1
  have ta := tq.stored (R := w.heap.size + 1 + 1) (x := .slice q (lcomb 1 xs ys).length kq) (lo' := w.heap.size) (by omega) (by omega)
  go_wp2_with fail
  have cz : ((w2.setCell ⟨w.heap.size + 1 + 1, 0, none⟩ (.slice q (lcomb 1 xs ys).length kq)).alloc (.cells #[.slice q (lcomb 1 xs ys).length kq] 39)).cell? ⟨w.heap.size + 1 + 1, 0, none⟩ = some (.slice q (lcomb 1 xs ys).length kq) := alloc_keep (World.cell?_setCell_same' w2 _ _ (by rw [cR2]; rfl))
  exact bodyPost_ret (v := .agg #[.slice q (lcomb 1 xs ys).length kq]) (by simp [results, Try.results59, go_sem, cz]) rfl ⟨_, rfl, by (repeat (with_reducible first | exact bR _ _ | assumption | refine bD ?_ | refine bN ?_ _ | refine bA ?_ _ | refine bS ?_ _)), (ta.keep (Below.alloc (Below.refl _ _) (Nat.le_refl _) _) (Nat.le_refl _)).mono (Nat.le_refl _) (by simp)⟩

set_option maxRecDepth 100000 in
set_option maxHeartbeats 1600000 in
theorem linMinus_any (o1 l1 h1 va xs) (o2 l2 h2 vb ys) (w : World) (t1 : Terms o1 l1 h1 w va xs) (hw1 : h1 ≤ w.heap.size) (t2 : Terms o2 l2 h2 w vb ys) (hw2 : h2 ≤ w.heap.size) :
    Calls Try.prog 58 #[.agg #[va], .agg #[vb]] w fun e w' => ∃ u, e = .returned (.agg #[u]) ∧ Below w.heap.size w w' ∧ Terms true w.heap.size w'.heap.size w' u (lcomb 2147483646 xs ys) := by
  obtain ⟨a, ka, rfl, la, ba⟩ := t1.shape
  obtain ⟨b, kb, rfl, lb, bb⟩ := t2.shape
  go_enter Try.func58, Try.ntmps58
  go_wp2_with fail
  refine name_call fun w1 hw1' => ?_
  have b1 : Below w.heap.size w w1 := by rw [hw1']; (repeat (with_reducible first | exact bR _ _ | assumption | refine bD ?_ | refine bN ?_ _ | refine bA ?_ _ | refine bS ?_ _))
  have z1 : w.heap.size + 3 ≤ w1.heap.size := by rw [hw1']; simp
  have cR1 : w1.cell? ⟨w.heap.size + 1 + 1, 0, none⟩ = some (.slice none 0 0) := by rw [hw1']; first | (simp; done) | go_simp
  have fR1 : w1.frozen? ⟨w.heap.size + 1 + 1, 0, none⟩ = false := by rw [hw1']; first | (simp; done) | go_simp
  clear hw1'
  refine (linSub_impl _ _ _ _ xs _ _ _ _ ys w1 (t1.keep b1 hw1) (by omega) (t2.keep b1 hw2) (by omega)).mono ?_; rintro e w2 ⟨u, rfl, f2, tq⟩
  obtain ⟨q, kq, rfl, lq, bq⟩ := tq.shape
  have b2 := b1.trans (f2.mono (by omega))
  have z2 := f2.size
  have l2 : w.heap.size + 1 + 1 < w2.heap.size := by omega
  have cR2 := cell_keep f2 cR1
  have fR2 := (f2.frozen (p := ⟨w.heap.size + 1 + 1, 0, none⟩) (show w.heap.size + 1 + 1 < w1.heap.size by omega)).trans fR1
  have ta := tq.stored (R := w.heap.size + 1 + 1) (x := .slice q (lcomb 2147483646 xs ys).length kq) (lo' := w.heap.size) (by omega) (by omega)
  go_wp2_with fail
  have cz : ((w2.setCell ⟨w.heap.size + 1 + 1, 0, none⟩ (.slice q (lcomb 2147483646 xs ys).length kq)).alloc (.cells #[.slice q (lcomb 2147483646 xs ys).length kq] 39)).cell? ⟨w.heap.size + 1 + 1, 0, none⟩ = some (.slice q (lcomb 2147483646 xs ys).length kq) := alloc_keep (World.cell?_setCell_same' w2 _ _ (by rw [cR2]; rfl))
  exact bodyPost_ret (v := .agg #[.slice q (lcomb 2147483646 xs ys).length kq]) (by simp [results, Try.results58, go_sem, cz]) rfl ⟨_, rfl, by (repeat (with_reducible first | exact bR _ _ | assumption | refine bD ?_ | refine bN ?_ _ | refine bA ?_ _ | refine bS ?_ _)), (ta.keep (Below.alloc (Below.refl _ _) (Nat.le_refl _) _) (Nat.le_refl _)).mono (Nat.le_refl _) (by simp)⟩

set_option maxRecDepth 100000 in
set_option maxHeartbeats 3200000 in
theorem equalB_any (base g : Nat) (gv : Gv) (s : SysC) (b : Bd) (Q : Nat → Prop) (ox oy : Bool) (va vb : Value) (x y : List T) (w : World) (B : Bld base g gv s b Q w) (tx : OutL ox Q w va x) (ty : OutL oy Q w vb y)
    (nc : s.cons.length ≤ 1048576) (nb : b.n ≤ 1000000) :
    Calls Try.prog 46 #[.pointer (some ⟨g, 0, none⟩), .agg #[va], .agg #[vb]] w (RetB base g gv s (eqB s b x y) Q w) := by
  obtain ⟨a, ka, rfl, la, ba⟩ := tx.shape
  obtain ⟨c, kc, rfl, lc, bc⟩ := ty.shape
  have LQ := Lib.hid B.lim
  have hbase := B.1
  have hg := B.glt
  go_enter Try.func46, Try.ntmps46
  go_wp2_with fail
  refine name_call fun w1 hw1 => ?_
  have e1 : Below w.heap.size w w1 := by rw [hw1]; (repeat (with_reducible first | exact bR _ _ | assumption | refine bD ?_ | refine bN ?_ _ | refine bA ?_ _ | refine bS ?_ _))
  have z1 : w.heap.size + 2 ≤ w1.heap.size := by rw [hw1]; simp
  clear hw1
  have X1 : Ext Q Q w w1 := .of_below e1
  refine (linMinus_any _ _ _ _ x _ _ _ _ y w1 (tx.ext X1).read (Nat.le_refl _) (ty.ext X1).read (Nat.le_refl _)).mono ?_; rintro e w2 ⟨u, rfl, f2, t2⟩
  obtain ⟨p, kp, rfl, lp, bp⟩ := t2.shape
  have z2 := f2.size
  have N2 : NewL w1.heap.size Q w2 _ _ := NewL.made t2 (Nat.le_refl _) (fun k q => by have := LQ.out k q; omega)
  have X2 := X1.trans (Ext.of_below f2)
  go_wp2_with fail
  refine (const_impl 1 w2 (by omega) (by omega)).mono ?_; rintro e w3 ⟨u3, rfl, f3, t3⟩
  obtain ⟨p3, k3, rfl, l3, b3⟩ := t3.shape
  have z3 := f3.size
  have N3 : NewL w2.heap.size Q w3 _ _ := NewL.made t3 (Nat.le_refl _) (fun k q => by have := LQ.out k q; omega)
  have X3 := X2.trans (Ext.of_below f3)
  have B3 : Bld base g gv s b Q w3 := B.below (e1.trans ((f2.mono (by omega)).trans (f3.mono (by omega))))
  go_wp2_with fail
  refine (conB_any base g gv s b Q true true true _ _ _ (lcomb 2147483646 x y) (constOf 1) [] w3 B3 (N2.ext (Ext.of_below f3)).out N3.out (OutL.nil _ _ _) (Nat.le_trans (lcomb_len _ _ _) (by omega)) (Nat.le_trans (constOf_len _) (by omega)) (by simp) nc nb).mono ?_; rintro e w4 ⟨Q4, rfl, B4, X4⟩
  have XF := X3.trans X4
  clear N2 N3 B3 tx ty X1 X2 X3 X4 t2 t3 e1 f2 f3 B
  go_wp2_with fail
  first | go_end0 | (simp only [Exit.inBlock, Exit.then]; refine bodyPost_ret (results_none rfl _ _ _) rfl ?_) | refine bodyPost_ret (results_none rfl _ _ _) rfl ?_
  exact RetB.of rfl B4 XF

set_option maxRecDepth 100000 in
set_option maxHeartbeats 3200000 in
theorem booleanB_any (base g : Nat) (gv : Gv) (s : SysC) (b : Bd) (Q : Nat → Prop) (ox : Bool) (va : Value) (x : List T) (w : World) (B : Bld base g gv s b Q w) (tx : OutL ox Q w va x)
    (nx : x.length ≤ 1048576) (nc : s.cons.length ≤ 1048576) (nb : b.n ≤ 1000000) :
    Calls Try.prog 45 #[.pointer (some ⟨g, 0, none⟩), .agg #[va]] w (RetB base g gv s (boolB s b x) Q w) := by
  obtain ⟨a, ka, rfl, la, ba⟩ := tx.shape
  have LQ := Lib.hid B.lim
  have NQ : Hid (∀ i, w.heap.size ≤ i → ¬ Q i) := Lib.hid fun i hi q => by have := LQ.out i q; omega
  have hbase := B.1
  have hg := B.glt
  go_enter Try.func45, Try.ntmps45
  go_wp2_with fail
  refine name_wp fun w1 hw1 => ?_
  have e1 : Below w.heap.size w w1 := by rw [hw1]; (repeat (with_reducible first | exact bR _ _ | assumption | refine bD ?_ | refine bN ?_ _ | refine bA ?_ _ | refine bS ?_ _))
  have z1 : w.heap.size + 1 ≤ w1.heap.size := by rw [hw1]; simp
  have cA1 : w1.cell? ⟨w.heap.size, 0, none⟩ = some (.slice a x.length ka) := by rw [hw1]; first | (simp; done) | go_simp
  clear hw1
  generalize hd : w1.drew = wd
  have ed : Below w1.heap.size w1 wd := by rw [← hd]; exact (Below.refl _ _).drew
  have zd := ed.size
  have e0 : Below w.heap.size w wd := e1.trans (ed.mono (by omega))
  have X1 : Ext Q Q w wd := .of_below e0
  have cA := cell_keep ed cA1
  have tX := (tx.ext X1).read
  have K0 : Hid (∀ Q' w', Ext Q Q' wd w' → w'.cell? ⟨w.heap.size, 0, none⟩ = some (.slice a x.length ka)) := Lib.hid fun Q' w' h => (h.cell (by omega) (NQ.out _ (Nat.le_refl _)) 0).trans cA
  have XX := Lib.hid X1
  have BB := Lib.hid (B.below e0)
  clear e1 ed e0 cA1
  subst hd
  go_region_held3 (fun w' => w'.cell? ⟨w.heap.size, 0, none⟩ = some (.slice a x.length ka)) (first | exact K0.out _ _ (Ext.refl _ _) | exact K0.out _ _ (Ext.of_below f3) | exact K0.out _ _ (Ext.of_below f2) | exact K0.out _ _ X4)
    (first
      | (go_at_call 60; (with_reducible refine (const_impl 1 _ (by omega) (by omega)).mono ?_); rintro e w3 ⟨u3, rfl, f3, t3⟩; obtain ⟨p3, k3, rfl, l3, b3⟩ := t3.shape; have z3 := f3.size)
      | (go_at_call 58; (with_reducible refine (linMinus_any _ _ _ _ x _ _ _ _ (constOf 1) w3 (tX.keep f3 (Nat.le_refl _)) (by omega) t3 (Nat.le_refl _)).mono ?_); rintro e w2 ⟨u, rfl, f2', t2⟩; obtain ⟨p, kp, rfl, lp, bp⟩ := t2.shape; have z2 := f2'.size; have f2 := f3.trans (f2'.mono (by omega)))
      | (go_at_call 70; (with_reducible refine (conB_any base g gv s b Q ox true true _ _ _ x (lcomb 2147483646 x (constOf 1)) [] w2 (BB.out.below f2) (tx.ext (XX.out.trans (Ext.of_below f2))) (NewL.out (NewL.made (base := w3.heap.size) t2 (Nat.le_refl _) (fun k q => by have := LQ.out k q; have := XX.out.size; omega))) (OutL.nil _ _ _) nx (Nat.le_trans (lcomb_len _ _ _) (by omega)) (by simp) nc nb).mono ?_); rintro e w4 ⟨Q4, rfl, B4, X4'⟩; have X4 := (Ext.of_below f2).trans X4'))
  have XF := XX.out.trans X4
  clear X4' X4 K0 BB
  go_wp2_with fail
  first | go_end0 | (simp only [Exit.inBlock, Exit.then]; refine bodyPost_ret (results_none rfl _ _ _) rfl ?_) | refine bodyPost_ret (results_none rfl _ _ _) rfl ?_
  exact RetB.of rfl B4 XF
end Go.Proofs.Ytcenijdaacbgpaa.L
