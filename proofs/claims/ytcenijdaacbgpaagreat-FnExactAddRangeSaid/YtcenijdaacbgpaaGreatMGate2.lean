/- The model's l4bool, l4eq, l4mux, l4xor (written by tools/gen/mgates.py). -/
import Derived.Test.YtcenijdaacbgpaaGreatB15
import Derived.Test.YtcenijdaacbgpaaGreatB17
namespace Go.Proofs.YtcenijdaacbgpaaGreat.L
open Go.RowKit Go.Proofs.YtcenijdaacbgpaaGreat.S
set_option linter.unusedVariables false
set_option linter.unusedSimpArgs false

theorem cell_otm {w : World} {b j c i : Nat} {x u : Value} (hne : b ≠ c) (h : w.cell? ⟨c, i, none⟩ = some x) : (w.setCell ⟨b, j, none⟩ u).cell? ⟨c, i, none⟩ = some x :=
 (World.cell?_setCell_other _ _ _ _ (fun e => hne (congrArg Addr.block e))).trans h
theorem Terms.toG {o : Bool} {l h : Nat} {w : World} {v : Value} {ts : List T} (t : Terms o l h w v ts) : TermsF o (fun k => l ≤ k ∧ k < h) w v ts := ⟨l, h, fun k a b => ⟨a, b⟩, t⟩
theorem KIn.const1 : KIn (constOf 1) := by unfold constOf; split; exact KIn.nil; exact KIn.one (by omega) (by omega)
theorem KIn.sVar (t : SysC) : KIn (sVar t) := KIn.one (by omega) (by omega)
def muxS (t : SysC) (z x y : List T) : SysC := mulS t z (mrg 2147483646 x y)
def muxZ (t : SysC) (y : List T) : List T := mrg 1 y (sVar t)
def xorZ (t : SysC) (x y : List T) : List T := mrg 2147483645 (mrg 1 x y) (sVar t)

set_option maxRecDepth 100000 in
set_option maxHeartbeats 6400000 in
theorem bool_spec (base g : Nat) (t : SysC) (Q A Gx : Nat → Prop) (ox : Bool) (vx : Value) (x : List T) (w : World) (M : Mdl base g t Q A w) (hb : base ≤ w.heap.size) (tx : TermsF ox Gx w vx x) (hG : ∀ k, Gx k → k < w.heap.size ∧ ¬ Q k)
  (ix : KIn x) (nx : x.length ≤ 500000) (i0 : 0 ≤ t.ins) (i1 : t.ins ≤ 100) (nh : t.hints.length ≤ 1000000) (nc : t.cons.length ≤ 1000000) :
  Calls Tryz.prog 59 #[.pointer (some ⟨g, 0, none⟩), .agg #[vx]] w (RetC base g (boolS t x) Q A Gx w) := by
 obtain ⟨ax, kx, rfl, lx, mx⟩ := tx.shape
 have LQ := Lib.hid M.lim
 have EL := Lib.hid M.els
 have HG := Lib.hid hG
 have NQ : Hid (∀ i, w.heap.size ≤ i → ¬ Q i) := Lib.hid fun i hi q => by have := LQ.out i q; omega
 clear hG
 go_enter Tryz.func59, Tryz.ntmps59
 go_wp2_with fail
 refine name_wp fun w1 hw1 => ?_
 have e1 : Below w.heap.size w w1 := by rw [hw1]; (repeat (with_reducible first | exact bR _ _ | assumption | refine bD ?_ | refine bN ?_ _ | refine bA ?_ _ | refine bS ?_ _))
 have z1 : w.heap.size + 1 ≤ w1.heap.size := by rw [hw1]; simp
 have cx1 : w1.cell? ⟨w.heap.size, 0, none⟩ = some (.slice ax x.length kx) := by rw [hw1]; first | (simp; done) | go_simp
 clear hw1
 generalize hd : w1.drew = wd
 have ed : Below w1.heap.size w1 wd := by rw [← hd]; exact (Below.refl _ _).drew
 have zd := ed.size
 have e0 : Below w.heap.size w wd := e1.trans (ed.mono (by omega))
 have X1 : Ext Q Q w wd := .of_below e0
 have cx := cell_keep ed cx1
 have rx := tx.agree (SameF.of_below e0 (fun k q => (HG.out k q).1))
 have K0 : Hid (∀ Q' w', Ext Q Q' wd w' → w'.cell? ⟨w.heap.size, 0, none⟩ = some (.slice ax x.length kx)) := Lib.hid fun Q' w' h => (h.cell (by omega) (NQ.out _ (by omega)) 0).trans cx
 have Hx : Hid (∀ Q' w', Ext Q Q' wd w' → TermsF ox Gx w' (.slice ax x.length kx) x) := Lib.hid fun Q' w' h => rx.agree (h.only.same (fun k q => ⟨by have := (HG.out k q).1; omega, (HG.out k q).2⟩))
 have MM := Lib.hid (M.below e0)
 have XX := Lib.hid X1
 have zw := X1.size
 have GP : Hid (∀ Q' w', Ext Q Q' wd w' → ∀ k, (Gx k ∨ (wd.heap.size ≤ k ∧ k < w'.heap.size ∧ ¬ Q' k)) → k < w'.heap.size ∧ ¬ Q' k) := Lib.hid fun Q' w' h k q => by
  rcases q with q | q
  ·have := HG.out k q; exact ⟨by have := h.size; omega, h.not (by omega) this.2⟩
  ·exact q.2
 clear e1 ed X1 M cx1 cx rx tx
 subst hd
 go_region_held3 (fun w' => w'.cell? ⟨w.heap.size, 0, none⟩ = some (.slice ax x.length kx)) (first | exact K0.out _ _ (Ext.refl _ _) | exact K0.out _ _ Y2 | exact K0.out _ _ Y3 | exact K0.out _ _ Y4)
  (first
   | (go_at_call 75; (with_reducible refine (l2const_any 1 _ (by omega) (by omega)).mono ?_); rintro e w2 ⟨u2, rfl, f2, t2⟩; obtain ⟨p2, k2, rfl, l2, b2⟩ := t2.shape; have z2 := f2.size; have Y2 := (Ext.refl Q w1.drew).trans (Ext.of_below f2))
   | (go_at_call 74; (with_reducible refine (l2sub_wide _ _ _ _ x _ _ _ _ (constOf 1) w2 (TermsF.read (Hx.out _ _ Y2)) (Nat.le_refl _) t2 (Nat.le_refl _) ix KIn.const1 (by omega) (Nat.le_trans (constOf_len _) (by omega))).mono ?_); rintro e w3 ⟨u3, rfl, f3, t3⟩; obtain ⟨p3, k3, rfl, l3, b3⟩ := t3.shape; have z3 := f3.size; have Y3 := Y2.trans (Ext.of_below f3))
   | (go_at_call 73; (with_reducible refine (con_spec base g t Q A (fun k => Gx k ∨ (w1.drew.heap.size ≤ k ∧ k < w3.heap.size ∧ ¬ Q k)) ox true true _ _ _ x (mrg 2147483646 x (constOf 1)) [] w3 ((MM.out.below f2).below f3) (by omega) ((Hx.out _ _ Y3).mono (fun k q => .inl q)) ((t3.toG).mono (fun k q => .inr ⟨by have := q.1; omega, q.2, fun r => by have := LQ.out k r; omega⟩)) (TermsF.nil _ _ _) (GP.out _ _ Y3) nc).mono ?_); rintro e w4 ⟨Q4, A4, rfl, M4, X4, E4⟩; have z4 := X4.size; have Y4 := Y3.trans X4))
 have XF := XX.out.trans Y4
 clear K0 MM
 go_wp2_with fail
 first | go_end0 | (simp only [Exit.inBlock, Exit.then]; refine bodyPost_ret (results_none rfl _ _ _) rfl ?_) | refine bodyPost_ret (results_none rfl _ _ _) rfl ?_
 exact RetC.of rfl M4 XF (fun k q => by rcases E4 k q with r | r | r; exact .inl r; (rcases r with r | r; exact .inr (.inl r); exact .inr (.inr (by have := r.1; omega))); exact .inr (.inr (by omega)))

set_option maxRecDepth 100000 in
set_option maxHeartbeats 6400000 in
theorem eq_spec (base g : Nat) (t : SysC) (Q A Gx : Nat → Prop) (ox : Bool) (vx : Value) (x : List T) (oy : Bool) (vy : Value) (y : List T) (w : World) (M : Mdl base g t Q A w) (hb : base ≤ w.heap.size) (tx : TermsF ox Gx w vx x) (ty : TermsF oy Gx w vy y) (hG : ∀ k, Gx k → k < w.heap.size ∧ ¬ Q k)
  (ix : KIn x) (iy : KIn y) (nx : x.length ≤ 500000) (ny : y.length ≤ 500000) (i0 : 0 ≤ t.ins) (i1 : t.ins ≤ 100) (nh : t.hints.length ≤ 1000000) (nc : t.cons.length ≤ 1000000) :
  Calls Tryz.prog 60 #[.pointer (some ⟨g, 0, none⟩), .agg #[vx], .agg #[vy]] w (RetC base g (eqS t x y) Q A Gx w) := by
 obtain ⟨ax, kx, rfl, lx, mx⟩ := tx.shape
 obtain ⟨ay, ky, rfl, ly, my⟩ := ty.shape
 have LQ := Lib.hid M.lim
 have EL := Lib.hid M.els
 have HG := Lib.hid hG
 have NQ : Hid (∀ i, w.heap.size ≤ i → ¬ Q i) := Lib.hid fun i hi q => by have := LQ.out i q; omega
 clear hG
 go_enter Tryz.func60, Tryz.ntmps60
 go_wp2_with fail
 refine name_call fun w1 hw1 => ?_
 have e1 : Below w.heap.size w w1 := by rw [hw1]; (repeat (with_reducible first | exact bR _ _ | assumption | refine bD ?_ | refine bN ?_ _ | refine bA ?_ _ | refine bS ?_ _))
 have z1 : w.heap.size + 2 ≤ w1.heap.size := by rw [hw1]; simp
 have cx1 : w1.cell? ⟨w.heap.size, 0, none⟩ = some (.slice ax x.length kx) := by rw [hw1]; first | (simp; done) | go_simp
 have cy1 : w1.cell? ⟨w.heap.size + 1, 0, none⟩ = some (.slice ay y.length ky) := by rw [hw1]; first | (simp; done) | go_simp
 clear hw1
 obtain ⟨wd, hd⟩ : ∃ x, x = w1 := ⟨_, rfl⟩
 have ed : Below w1.heap.size w1 wd := by rw [hd]; exact Below.refl _ _
 have zd := ed.size
 have e0 : Below w.heap.size w wd := e1.trans (ed.mono (by omega))
 have X1 : Ext Q Q w wd := .of_below e0
 have cx := cell_keep ed cx1
 have rx := tx.agree (SameF.of_below e0 (fun k q => (HG.out k q).1))
 have cy := cell_keep ed cy1
 have ry := ty.agree (SameF.of_below e0 (fun k q => (HG.out k q).1))
 have K0 : Hid (∀ Q' w', Ext Q Q' wd w' → w'.cell? ⟨w.heap.size, 0, none⟩ = some (.slice ax x.length kx) ∧ w'.cell? ⟨w.heap.size + 1, 0, none⟩ = some (.slice ay y.length ky)) := Lib.hid fun Q' w' h => ⟨(h.cell (by omega) (NQ.out _ (by omega)) 0).trans cx, (h.cell (by omega) (NQ.out _ (by omega)) 0).trans cy⟩
 have Hx : Hid (∀ Q' w', Ext Q Q' wd w' → TermsF ox Gx w' (.slice ax x.length kx) x) := Lib.hid fun Q' w' h => rx.agree (h.only.same (fun k q => ⟨by have := (HG.out k q).1; omega, (HG.out k q).2⟩))
 have Hy : Hid (∀ Q' w', Ext Q Q' wd w' → TermsF oy Gx w' (.slice ay y.length ky) y) := Lib.hid fun Q' w' h => ry.agree (h.only.same (fun k q => ⟨by have := (HG.out k q).1; omega, (HG.out k q).2⟩))
 have MM := Lib.hid (M.below e0)
 have XX := Lib.hid X1
 have zw := X1.size
 have GP : Hid (∀ Q' w', Ext Q Q' wd w' → ∀ k, (Gx k ∨ (wd.heap.size ≤ k ∧ k < w'.heap.size ∧ ¬ Q' k)) → k < w'.heap.size ∧ ¬ Q' k) := Lib.hid fun Q' w' h k q => by
  rcases q with q | q
  ·have := HG.out k q; exact ⟨by have := h.size; omega, h.not (by omega) this.2⟩
  ·exact q.2
 clear e1 ed X1 M cx1 cx rx tx cy1 cy ry ty
 subst hd
 (with_reducible refine (l2sub_wide _ _ _ _ x _ _ _ _ y wd (TermsF.read (Hx.out _ _ (Ext.refl _ _))) (Nat.le_refl _) (TermsF.read (Hy.out _ _ (Ext.refl _ _))) (Nat.le_refl _) ix iy (by omega) (by omega)).mono ?_); rintro e w2 ⟨u2, rfl, f2, t2⟩; obtain ⟨p2, k2, rfl, l2, b2⟩ := t2.shape; have z2 := f2.size; have Y2 := (Ext.refl Q wd).trans (Ext.of_below f2)
 go_wp2_with fail
 (with_reducible refine (l2const_any 1 _ (by omega) (by omega)).mono ?_); rintro e w3 ⟨u3, rfl, f3, t3⟩; obtain ⟨p3, k3, rfl, l3, b3⟩ := t3.shape; have z3 := f3.size; have Y3 := Y2.trans (Ext.of_below f3)
 have N2 := t2.toG.agree (SameF.of_below f3 (fun k q => q.2))
 go_wp2_with fail
 (with_reducible refine (con_spec base g t Q A (fun k => Gx k ∨ (wd.heap.size ≤ k ∧ k < w3.heap.size ∧ ¬ Q k)) true true true _ _ _ (mrg 2147483646 x y) (constOf 1) [] w3 ((MM.out.below f2).below f3) (by omega) (N2.mono (fun k q => .inr ⟨by have := q.1; omega, by have := q.2; omega, fun r => by have := LQ.out k r; have := q.1; omega⟩)) (t3.toG.mono (fun k q => .inr ⟨by have := q.1; omega, q.2, fun r => by have := LQ.out k r; have := q.1; omega⟩)) (TermsF.nil _ _ _) (GP.out _ _ Y3) nc).mono ?_); rintro e w4 ⟨Q4, A4, rfl, M4, X4, E4⟩; have z4 := X4.size; have Y4 := Y3.trans X4
 have XF := XX.out.trans Y4
 clear K0 MM N2
 go_wp2_with fail
 first | go_end0 | (simp only [Exit.inBlock, Exit.then]; refine bodyPost_ret (results_none rfl _ _ _) rfl ?_) | refine bodyPost_ret (results_none rfl _ _ _) rfl ?_
 exact RetC.of rfl M4 XF (fun k q => by rcases E4 k q with r | r | r; exact .inl r; (rcases r with r | r; exact .inr (.inl r); exact .inr (.inr (by have := r.1; omega))); exact .inr (.inr (by omega)))

end Go.Proofs.YtcenijdaacbgpaaGreat.L
