/- B15: MGate MMul Same4 -/
import Derived.Test.YtcenijdaacbgpaaGreatB14
import Derived.Test.YtcenijdaacbgpaaGreatB8
import Derived.Test.YtcenijdaacbgpaaGreatB11
import Derived.Test.YtcenijdaacbgpaaGreatB12
import Derived.Test.YtcenijdaacbgpaaGreatB7
set_option linter.unusedVariables false
set_option linter.unusedSimpArgs false
/- The model's l4hint and l4con (written by tools/gen/mgate.py). -/
namespace Go.Proofs.YtcenijdaacbgpaaGreat.L
open Go.RowKit Go.Proofs.YtcenijdaacbgpaaGreat.S
set_option linter.unusedVariables false
set_option linter.unusedSimpArgs false

def RetM (base g : Nat) (t : SysC) (ts : List T) (Q A G : Nat → Prop) (w : World) (e : Ending) (w' : World) : Prop :=
 ∃ u Q' A', e = .returned (.agg #[u]) ∧ Mdl base g t Q' A' w' ∧ NewL w.heap.size Q' w' u ts ∧ Ext Q Q' w w' ∧ (∀ k, A' k → A k ∨ G k ∨ w.heap.size ≤ k)
theorem RetM.of {base g : Nat} {t t' : SysC} {ts ts' : List T} {Q A G Q' A' : Nat → Prop} {w w' : World} {u : Value} (e1 : t' = t) (e2 : ts' = ts) (h1 : Mdl base g t Q' A' w') (h2 : NewL w.heap.size Q' w' u ts) (h3 : Ext Q Q' w w') (h4 : ∀ k, A' k → A k ∨ G k ∨ w.heap.size ≤ k) : RetM base g t' ts' Q A G w (.returned (.agg #[u])) w' := by
 subst e1 e2; exact ⟨u, Q', A', rfl, h1, h2, h3, h4⟩
def RetC (base g : Nat) (t : SysC) (Q A G : Nat → Prop) (w : World) (e : Ending) (w' : World) : Prop :=
 ∃ Q' A', e = .returned (.tuple #[]) ∧ Mdl base g t Q' A' w' ∧ Ext Q Q' w w' ∧ (∀ k, A' k → A k ∨ G k ∨ w.heap.size ≤ k)
theorem RetC.of {base g : Nat} {t t' : SysC} {Q A G Q' A' : Nat → Prop} {w w' : World} (e1 : t' = t) (h1 : Mdl base g t Q' A' w') (h3 : Ext Q Q' w w') (h4 : ∀ k, A' k → A k ∨ G k ∨ w.heap.size ≤ k) : RetC base g t' Q A G w (.returned (.tuple #[])) w' := by
 subst e1; exact ⟨Q', A', rfl, h1, h3, h4⟩

set_option maxRecDepth 100000 in
set_option maxHeartbeats 3200000 in
theorem hint_spec (base g : Nat) (t : SysC) (Q A Gx : Nat → Prop) (kind k : Int) (o1 o2 : Bool) (va vb : Value) (x y : List T) (w : World) (M : Mdl base g t Q A w) (hb : base ≤ w.heap.size) (tx : TermsF o1 Gx w va x) (ty : TermsF o2 Gx w vb y) (hG : ∀ k, Gx k → k < w.heap.size ∧ ¬ Q k)
  (i0 : 0 ≤ t.ins) (i1 : t.ins ≤ 100) (nh : t.hints.length ≤ 1000000) (k0 : Fits kind) (k1 : Fits k) :
  Calls Tryz.prog 58 #[.pointer (some ⟨g, 0, none⟩), .agg #[.int .i64 kind, va, vb, .int .i64 k]] w (RetM base g (sHint t ⟨kind, x, y, k⟩) (sVar t) Q A Gx w) := by
 obtain ⟨j2, hj2, hz2, hs2, hb2⟩ := info_parts HintInfo
 obtain ⟨hg, hQ, fi, fr, vo, vh, vc, bx, R1, F1, R2, F2, FO, rO, g1, g2, q1, q2, q3, q4⟩ := id M
 obtain ⟨Xo, ko, rfl, lo, bo, -⟩ := id rO
 obtain ⟨H, kH, rfl, lH, bH⟩ := g1.shape
 obtain ⟨Cx, kC, rfl, lC, bC⟩ := g2.shape
 obtain ⟨a, ka, rfl, la, ba⟩ := tx.shape
 obtain ⟨c, kc, rfl, lc, bc⟩ := ty.shape
 have LQ := Lib.hid hQ
 have HG := Lib.hid hG
 have Q1 := Lib.hid q1
 have Q2 := Lib.hid q2
 have Q3 := Lib.hid q3
 have Q4 := Lib.hid q4
 have lg := hQ g hg
 obtain ⟨r0, r1, r2, r3⟩ := id bx
 clear hQ hG q1 q2 q3 q4 M
 go_enter Tryz.func58, Tryz.ntmps58
 go_wp2_with fail
 refine name_call fun w1 hw1 => ?_
 have e1 : Below w.heap.size w w1 := by rw [hw1]; (repeat (with_reducible first | exact bR _ _ | assumption | refine bD ?_ | refine bN ?_ _ | refine bA ?_ _ | refine bS ?_ _))
 have z1 : w.heap.size + 2 ≤ w1.heap.size := by rw [hw1]; simp
 have BH : Box4 w1 w.heap.size (.int .i64 kind) (.slice a x.length ka) (.slice c y.length kc) (.int .i64 k) := ⟨by rw [hw1]; first | (simp; done) | go_simp, by rw [hw1]; first | (simp; done) | go_simp, by rw [hw1]; first | (simp; done) | go_simp, by rw [hw1]; first | (simp; done) | go_simp⟩
 have cR : w1.cell? ⟨w.heap.size + 1, 0, none⟩ = some (.slice none 0 0) := by rw [hw1]; first | (simp; done) | go_simp
 have fR : w1.frozen? ⟨w.heap.size + 1, 0, none⟩ = false := by rw [hw1]; first | (simp; done) | go_simp
 clear hw1
 refine (l3vars_any t Xo ko H kH Cx kC w1 i0 i1 (by omega)).mono ?_; rintro e w2 ⟨rfl, f2⟩
 have z2 := f2.size
 have e2 : Below w.heap.size w w2 := e1.trans (f2.mono (by omega))
 have c2 := cell_keep e2 r2
 have fg : w2.frozen? ⟨g, 2, none⟩ = false := (e2.frozen (p := ⟨g, 2, none⟩) lg).trans fr.2.2.1
 obtain ⟨b0, b1, b2, b3⟩ := BH.keep f2 (by omega)
 have cR2 := cell_keep f2 cR
 have fR2 := (f2.frozen (p := ⟨w.heap.size + 1, 0, none⟩) (show w.heap.size + 1 < w1.heap.size by omega)).trans fR
 clear BH cR fR r0 r1 r2 r3
 go_wp2_with fail
 have nRb : ∀ q, w.heap.size ≤ q → ¬ R1 q := fun q h r => by have := LQ.out q (Q1.out q r).1; omega
 have nRg : ¬ R1 g := fun r => (Q1.out g r).2 rfl
 have SAME : Hid (∀ w' p, OnlyF R1 w2 w' → p = g ∨ (w.heap.size ≤ p ∧ p < w2.heap.size) → w'.heap[p]? = w2.heap[p]?) := Lib.hid fun w' p h hp => by
  rcases hp with rfl | hp
  ·exact h.block _ (by omega) nRg
  ·exact h.block _ hp.2 (nRb _ hp.1)
 have K0 : Hid (∀ w', OnlyF R1 w2 w' → w'.cell? ⟨g, 2, none⟩ = some (.slice H t.hints.length kH) ∧ w'.cell? ⟨w.heap.size, 0, none⟩ = some (.int .i64 kind) ∧ w'.cell? ⟨w.heap.size, 1, none⟩ = some (.slice a x.length ka) ∧ w'.cell? ⟨w.heap.size, 2, none⟩ = some (.slice c y.length kc) ∧ w'.cell? ⟨w.heap.size, 3, none⟩ = some (.int .i64 k)) := Lib.hid fun w' h =>
  ⟨by rw [World.cell?_of_block (a := ⟨g, 2, none⟩) (SAME.out w' g h (.inl rfl))]; exact c2, by rw [World.cell?_of_block (a := ⟨w.heap.size, 0, none⟩) (SAME.out w' _ h (.inr ⟨Nat.le_refl _, show w.heap.size < w2.heap.size by omega⟩))]; exact b0, by rw [World.cell?_of_block (a := ⟨w.heap.size, 1, none⟩) (SAME.out w' _ h (.inr ⟨Nat.le_refl _, show w.heap.size < w2.heap.size by omega⟩))]; exact b1, by rw [World.cell?_of_block (a := ⟨w.heap.size, 2, none⟩) (SAME.out w' _ h (.inr ⟨Nat.le_refl _, show w.heap.size < w2.heap.size by omega⟩))]; exact b2, by rw [World.cell?_of_block (a := ⟨w.heap.size, 3, none⟩) (SAME.out w' _ h (.inr ⟨Nat.le_refl _, show w.heap.size < w2.heap.size by omega⟩))]; exact b3⟩
 have KR : Hid (∀ w', OnlyF R1 w2 w' → w'.cell? ⟨w.heap.size + 1, 0, none⟩ = some (.slice none 0 0) ∧ w'.frozen? ⟨w.heap.size + 1, 0, none⟩ = false ∧ w'.frozen? ⟨g, 2, none⟩ = false) := Lib.hid fun w' h =>
  ⟨by rw [World.cell?_of_block (a := ⟨w.heap.size + 1, 0, none⟩) (SAME.out w' _ h (.inr ⟨Nat.le_add_right _ _, show w.heap.size + 1 < w2.heap.size by omega⟩))]; exact cR2, by rw [World.frozen?_of_block (a := ⟨w.heap.size + 1, 0, none⟩) (SAME.out w' _ h (.inr ⟨Nat.le_add_right _ _, show w.heap.size + 1 < w2.heap.size by omega⟩))]; exact fR2, by rw [World.frozen?_of_block (a := ⟨g, 2, none⟩) (SAME.out w' g h (.inl rfl))]; exact fg⟩
 have zd : w2.drew.heap.size = w2.heap.size := rfl
 have LIMR : Hid (∀ q, R1 q ∨ F1 q → q < w.heap.size) := Lib.hid fun q r => by
  rcases r with r | r
  ·exact LQ.out q (Q1.out q r).1
  ·exact (Q4.out q (Q3.out q (.inl r))).1
 have o0 : OnlyF R1 w2 w2.drew := (OnlyF.refl _ _).drew
 have fS : Below w.heap.size w (w2.drew.alloc (.cells #[.int .i64 kind, .slice a x.length ka, .slice c y.length kc, .int .i64 k] 81)) := Below.alloc e2.drew (by omega) _
 have GA := g1.agree (SameF.of_below fS (fun q r => by rcases r with r | r; exact LQ.out q (Q1.out q r).1; exact (Q4.out q (Q3.out q (.inl r))).1))
 obtain ⟨l1, h1, p1, ta⟩ := TermsF.unown (TermsF.agree tx (SameF.of_below fS (fun q r => (HG.out q r).1)))
 obtain ⟨l2, h2, p2, tb⟩ := TermsF.unown (TermsF.agree ty (SameF.of_below fS (fun q r => (HG.out q r).1)))
 clear b0 b1 b2 b3 cR2 fR2 c2 fg e1 f2 nRb nRg
 refine wp_region_tailL (S := fun w' => w'.cell? ⟨g, 2, none⟩ = some (.slice H t.hints.length kH) ∧ w'.cell? ⟨w.heap.size, 0, none⟩ = some (.int .i64 kind) ∧ w'.cell? ⟨w.heap.size, 1, none⟩ = some (.slice a x.length ka) ∧ w'.cell? ⟨w.heap.size, 2, none⟩ = some (.slice c y.length kc) ∧ w'.cell? ⟨w.heap.size, 3, none⟩ = some (.int .i64 k)) (by kernel_rfl) (by simp) (by kernel_rfl) (K0.out _ o0) (fun hHeld => ?_)
 simp only [List.dropLast_cons_cons, List.dropLast_singleton, List.getLast_cons_cons, List.getLast_singleton]
 refine wpAnyH_take (i := 0) rfl (by kernel_rfl) (by kernel_rfl) (by kernel_rfl) (fun _ _ _ h => h) (v := ?_) (Or.inl ⟨by rfl, ?_⟩) (by assumption) ?_
 case refine_2 => (intro w hSw; (try dsimp only at hSw); go_simp; (try with_reducible rfl))
 try simp only [Act.put, List.setIfInBounds_toArray, List.set_cons_zero, List.set_cons_succ, List.getElem_toArray, List.getElem_cons_succ, List.getElem_cons_zero]
 refine wpAnyH_take (i := 1) rfl (by kernel_rfl) (by kernel_rfl) (by kernel_rfl) (fun _ _ _ h => h) (v := ?_) (Or.inl ⟨by rfl, ?_⟩) (by assumption) ?_
 case refine_2 => (intro w hSw; (try dsimp only at hSw); go_simp; (try with_reducible rfl))
 try simp only [Act.put, List.setIfInBounds_toArray, List.set_cons_zero, List.set_cons_succ, List.getElem_toArray, List.getElem_cons_succ, List.getElem_cons_zero]
 refine wpAnyH_take (i := 2) rfl (by kernel_rfl) (by kernel_rfl) (by kernel_rfl) (fun _ _ _ h => h) (v := ?_) (Or.inl ⟨by rfl, ?_⟩) (by assumption) ?_
 case refine_2 => (intro w hSw; (try dsimp only at hSw); go_simp; (try with_reducible rfl))
 try simp only [Act.put, List.setIfInBounds_toArray, List.set_cons_zero, List.set_cons_succ, List.getElem_toArray, List.getElem_cons_succ, List.getElem_cons_zero]
 refine wpAnyH_take (i := 3) rfl (by kernel_rfl) (by kernel_rfl) (by kernel_rfl) (fun _ _ _ h => h) (v := ?_) (Or.inl ⟨by rfl, ?_⟩) (by assumption) ?_
 case refine_2 => (intro w hSw; (try dsimp only at hSw); go_simp; (try with_reducible rfl))
 try simp only [Act.put, List.setIfInBounds_toArray, List.set_cons_zero, List.set_cons_succ, List.getElem_toArray, List.getElem_cons_succ, List.getElem_cons_zero]
 refine wpAnyH_take (i := 4) rfl (by kernel_rfl) (by kernel_rfl) (by kernel_rfl) (fun _ _ _ h => h) (v := ?_) (Or.inl ⟨by rfl, ?_⟩) (by assumption) ?_
 case refine_2 => (intro w hSw; (try dsimp only at hSw); go_simp; (try with_reducible rfl))
 try simp only [Act.put, List.setIfInBounds_toArray, List.set_cons_zero, List.set_cons_succ, List.getElem_toArray, List.getElem_cons_succ, List.getElem_cons_zero]
 refine wpAnyH_take (i := 5) rfl (by kernel_rfl) (by kernel_rfl) (by kernel_rfl) (fun _ _ _ h => h) (v := ?_) (Or.inl ⟨by rfl, ?_⟩) (by assumption) ?_
 case refine_2 => (intro w hSw; (try dsimp only at hSw); go_simp; (try with_reducible rfl))
 try simp only [Act.put, List.setIfInBounds_toArray, List.set_cons_zero, List.set_cons_succ, List.getElem_toArray, List.getElem_cons_succ, List.getElem_cons_zero]
 refine wpAnyH_ready (rs := [6]) (by kernel_rfl) (by simp) ?_
 refine AllReadyH.cons rfl (fun K hK => ?_) AllReadyH.nil
 go_simp
 have oS := o0.alloc (.cells #[.int .i64 kind, .slice a x.length ka, .slice c y.length kc, .int .i64 k] 81)
 refine hK.out _ _ (K0.out _ oS) (fun hHeld => ?_)
 clear hK K
 try simp only [Act.put, List.setIfInBounds_toArray, List.set_cons_zero, List.set_cons_succ, List.getElem_toArray, List.getElem_cons_succ, List.getElem_cons_zero]
 refine wpAnyH_ready (rs := [7]) (by kernel_rfl) (by simp) ?_
 refine AllReadyH.cons rfl (fun K hK => ?_) AllReadyH.nil
 refine step_append_growF (w2.drew.alloc (.cells #[.int .i64 kind, .slice a x.length ka, .slice c y.length kc, .int .i64 k] 81)) rfl _ _ 33 rfl 81 j2 (.agg #[.int .i64 0, .slice none 0 0, .slice none 0 0, .int .i64 0]) 64 Tryz.underlying33 hj2 hz2 hs2 hb2 rfl (by decide) (.slice H t.hints.length kH) t.hints rfl GA [.int .i64 kind, .slice a x.length ka, .slice c y.length kc, .int .i64 k] ⟨kind, x, y, k⟩ Gx ⟨_, _, l1, h1, l2, h2, rfl, k0, k1, p1, p2, fun q => (by cases q), ta, tb⟩ w2.drew.heap.size (0, 0) rfl (heap_alloc_new w2.drew _) (fun q r s => (Q4.out q (Q3.out q (.inl s))).2 (Q1.out q r).1) (fun q r => by have := LIMR.out q r; simp; omega) (fun q r => ⟨by have := (HG.out q r).1; simp; omega, fun s => (HG.out q r).2 (Q1.out q s).1⟩) (fun q => by cases q) (by omega) (by omega) (by simp; omega) ?_
 rintro g' cap' y1 ⟨⟨Gn, on1⟩, lc1⟩
 have oy := oS.trans on1
 have zy := on1.size
 simp only [World.size_alloc] at zy
 refine hK.out _ _ (K0.out _ oy) (fun hHeld => ?_)
 clear hK K
 try simp only [Act.put, List.setIfInBounds_toArray, List.set_cons_zero, List.set_cons_succ, List.getElem_toArray, List.getElem_cons_succ, List.getElem_cons_zero]
 refine wpAnyH_take (i := 8) rfl (by kernel_rfl) (by kernel_rfl) (by kernel_rfl) (fun _ _ _ h => h) (v := ?_) (Or.inl ⟨by rfl, ?_⟩) (by assumption) ?_
 case refine_2 => (intro w hSw; (try dsimp only at hSw); go_simp; (try with_reducible rfl))
 try simp only [Act.put, List.setIfInBounds_toArray, List.set_cons_zero, List.set_cons_succ, List.getElem_toArray, List.getElem_cons_succ, List.getElem_cons_zero]
 refine wpAnyH_take (i := 9) rfl (by kernel_rfl) (by kernel_rfl) (by kernel_rfl) (fun _ _ _ h => h) (v := ?_) (Or.inl ⟨by rfl, ?_⟩) (by assumption) ?_
 case refine_2 => (intro w hSw; (try dsimp only at hSw); go_simp; (try with_reducible rfl))
 try simp only [Act.put, List.setIfInBounds_toArray, List.set_cons_zero, List.set_cons_succ, List.getElem_toArray, List.getElem_cons_succ, List.getElem_cons_zero]
 refine wpAnyH_done (by kernel_rfl) ?_ _
 show Oper.wp _ _ _ _ _ _
 obtain ⟨M5, X5⟩ := Mdl.hinted hg LQ.out fi fr bx rO g2 Q1.out Q2.out Q3.out Q4.out fS on1 Gn HG.out
 have cg := (K0.out _ oy).1
 obtain ⟨cRy, fRy, fgy⟩ := KR.out _ oy
 have lgy : g < y1.heap.size := by omega
 have NQ5 : ¬ (Q (w.heap.size + 1) ∨ Nw (w2.drew.alloc (.cells #[.int .i64 kind, .slice a x.length ka, .slice c y.length kc, .int .i64 k] 81)) y1 (w.heap.size + 1)) := fun q => by
  rcases q with q | q
  ·have := LQ.out _ q; omega
  ·have := q.1; simp only [World.size_alloc] at this; omega
 have NA5 : ¬ (A (w.heap.size + 1) ∨ Gx (w.heap.size + 1)) := fun q => by
  rcases q with q | q
  ·have := (Q4.out _ q).1; omega
  ·have := (HG.out _ q).1; omega
 clear K0 KR SAME hHeld oS o0 fS GA ta tb g1 g2 rO bx Gn on1 oy tx ty
 go_simp
 generalize hw5 : y1.setCell ⟨g, 2, none⟩ _ = w5 at *
 have z5 : y1.heap.size ≤ w5.heap.size := by rw [← hw5, World.size_setCell]; exact Nat.le_refl _
 have cR5 : w5.cell? ⟨w.heap.size + 1, 0, none⟩ = some (.slice none 0 0) := by rw [← hw5]; exact cell_other1 (by omega) cRy
 have fR5 : w5.frozen? ⟨w.heap.size + 1, 0, none⟩ = false := by rw [← hw5, World.frozen?_setCell]; exact fRy
 clear hw5 cRy fRy fgy cg
 go_wp2_with fail
 refine (l2var_any (1 + t.ins + (t.hints.length : Int)) w5 (by omega) (by omega)).mono ?_; rintro e w6 ⟨u, rfl, f6, t6⟩
 obtain ⟨p, kp, rfl, lp, bp⟩ := t6.shape
 have z6 := f6.size
 have M6 := M5.below f6
 have N6 : NewL w2.heap.size _ w6 _ _ := NewL.made t6 (by omega) M5.lim
 have X6 := X5.trans (Ext.of_below f6)
 have cR6 := cell_keep f6 cR5
 have fR6 := (f6.frozen (p := ⟨w.heap.size + 1, 0, none⟩) (show w.heap.size + 1 < w5.heap.size by omega)).trans fR5
 have lR6 : w.heap.size + 1 < w6.heap.size := by omega
 clear M5 X5 cR5 fR5 t6
 go_wp2_with fail
 exact bodyPost_ret (v := .agg #[.slice p [((1 + t.ins + (t.hints.length : Int)), (1 : Int))].length kp]) (by simp [results, Tryz.results58, go_sem, cR6]) rfl (RetM.of rfl rfl (M6.boxed NQ5 NA5) (lin_store (lo := w2.heap.size) N6 (by omega) (by omega)) (ext_boxed X6 (by omega)) (fun q r => by rcases r with r | r; exact .inl r; exact .inr (.inl r)))

set_option maxRecDepth 100000 in
set_option maxHeartbeats 3200000 in
theorem con_spec (base g : Nat) (t : SysC) (Q A Gx : Nat → Prop) (o1 o2 o3 : Bool) (va vb vd : Value) (x y z : List T) (w : World) (M : Mdl base g t Q A w) (hb : base ≤ w.heap.size) (tx : TermsF o1 Gx w va x) (ty : TermsF o2 Gx w vb y) (tz : TermsF o3 Gx w vd z) (hG : ∀ k, Gx k → k < w.heap.size ∧ ¬ Q k) (nc : t.cons.length ≤ 1000000) :
  Calls Tryz.prog 73 #[.pointer (some ⟨g, 0, none⟩), .agg #[va], .agg #[vb], .agg #[vd]] w (RetC base g (sCon t ⟨x, y, z⟩) Q A Gx w) := by
 obtain ⟨j3, hj3, hz3, hs3, hb3⟩ := info_parts ConInfo
 obtain ⟨hg, hQ, fi, fr, vo, vh, vc, bx, R1, F1, R2, F2, FO, rO, g1, g2, q1, q2, q3, q4⟩ := id M
 obtain ⟨Xo, ko, rfl, lo, bo, -⟩ := id rO
 obtain ⟨H, kH, rfl, lH, bH⟩ := g1.shape
 obtain ⟨Cx, kC, rfl, lC, bC⟩ := g2.shape
 obtain ⟨a, ka, rfl, la, ba⟩ := tx.shape
 obtain ⟨c, kc, rfl, lc, bc⟩ := ty.shape
 obtain ⟨d, kd, rfl, ld, bd⟩ := tz.shape
 have LQ := Lib.hid hQ
 have HG := Lib.hid hG
 have Q1 := Lib.hid q1
 have Q2 := Lib.hid q2
 have Q3 := Lib.hid q3
 have Q4 := Lib.hid q4
 have lg := hQ g hg
 have r3 := bx.2.2.2
 clear hQ hG q1 q2 q3 q4 M
 go_enter Tryz.func73, Tryz.ntmps73
 go_wp2_with fail
 refine name_wp fun w2 hw1 => ?_
 have e2 : Below w.heap.size w w2 := by rw [hw1]; (repeat (with_reducible first | exact bR _ _ | assumption | refine bD ?_ | refine bN ?_ _ | refine bA ?_ _ | refine bS ?_ _))
 have z2 : w.heap.size + 3 ≤ w2.heap.size := by rw [hw1]; simp
 have b0 : w2.cell? ⟨w.heap.size, 0, none⟩ = some (.slice a x.length ka) := by rw [hw1]; first | (simp; done) | go_simp
 have b1 : w2.cell? ⟨w.heap.size + 1, 0, none⟩ = some (.slice c y.length kc) := by rw [hw1]; first | (simp; done) | go_simp
 have b2 : w2.cell? ⟨w.heap.size + 1 + 1, 0, none⟩ = some (.slice d z.length kd) := by rw [hw1]; first | (simp; done) | go_simp
 clear hw1
 have c2 := cell_keep e2 r3
 have fg : w2.frozen? ⟨g, 3, none⟩ = false := (e2.frozen (p := ⟨g, 3, none⟩) lg).trans fr.2.2.2
 have nRb : ∀ q, w.heap.size ≤ q → ¬ R2 q := fun q h r => by have := LQ.out q (Q2.out q r).1; omega
 have nRg : ¬ R2 g := fun r => (Q2.out g r).2.1 rfl
 have SAME : Hid (∀ w' p, OnlyF R2 w2 w' → p = g ∨ (w.heap.size ≤ p ∧ p < w2.heap.size) → w'.heap[p]? = w2.heap[p]?) := Lib.hid fun w' p h hp => by
  rcases hp with rfl | hp
  ·exact h.block _ (by omega) nRg
  ·exact h.block _ hp.2 (nRb _ hp.1)
 have K0 : Hid (∀ w', OnlyF R2 w2 w' → w'.cell? ⟨g, 3, none⟩ = some (.slice Cx t.cons.length kC) ∧ w'.cell? ⟨w.heap.size, 0, none⟩ = some (.slice a x.length ka) ∧ w'.cell? ⟨w.heap.size + 1, 0, none⟩ = some (.slice c y.length kc) ∧ w'.cell? ⟨w.heap.size + 1 + 1, 0, none⟩ = some (.slice d z.length kd)) := Lib.hid fun w' h =>
  ⟨by rw [World.cell?_of_block (a := ⟨g, 3, none⟩) (SAME.out w' g h (.inl rfl))]; exact c2, by rw [World.cell?_of_block (a := ⟨w.heap.size, 0, none⟩) (SAME.out w' _ h (.inr ⟨Nat.le_refl _, show w.heap.size < w2.heap.size by omega⟩))]; exact b0, by rw [World.cell?_of_block (a := ⟨w.heap.size + 1, 0, none⟩) (SAME.out w' _ h (.inr ⟨Nat.le_add_right _ _, show w.heap.size + 1 < w2.heap.size by omega⟩))]; exact b1, by rw [World.cell?_of_block (a := ⟨w.heap.size + 1 + 1, 0, none⟩) (SAME.out w' _ h (.inr ⟨by show w.heap.size ≤ w.heap.size + 1 + 1; omega, show w.heap.size + 1 + 1 < w2.heap.size by omega⟩))]; exact b2⟩
 have KR : Hid (∀ w', OnlyF R2 w2 w' → w'.frozen? ⟨g, 3, none⟩ = false) := Lib.hid fun w' h => by rw [World.frozen?_of_block (a := ⟨g, 3, none⟩) (SAME.out w' g h (.inl rfl))]; exact fg
 have zd : w2.drew.heap.size = w2.heap.size := rfl
 have LIMR : Hid (∀ q, R2 q ∨ F2 q → q < w.heap.size) := Lib.hid fun q r => by
  rcases r with r | r
  ·exact LQ.out q (Q2.out q r).1
  ·exact (Q4.out q (Q3.out q (.inr (.inl r)))).1
 have o0 : OnlyF R2 w2 w2.drew := (OnlyF.refl _ _).drew
 have fS : Below w.heap.size w (w2.drew.alloc (.cells #[.slice a x.length ka, .slice c y.length kc, .slice d z.length kd] 84)) := Below.alloc e2.drew (by omega) _
 have GA := g2.agree (SameF.of_below fS LIMR.out)
 obtain ⟨l1, h1, p1, ta⟩ := TermsF.unown (TermsF.agree tx (SameF.of_below fS (fun q r => (HG.out q r).1)))
 obtain ⟨l2, h2, p2, tb⟩ := TermsF.unown (TermsF.agree ty (SameF.of_below fS (fun q r => (HG.out q r).1)))
 obtain ⟨l3, h3, p3, tc⟩ := TermsF.unown (TermsF.agree tz (SameF.of_below fS (fun q r => (HG.out q r).1)))
 clear b0 b1 b2 c2 fg nRb nRg r3
 refine wp_region_tailL (S := fun w' => w'.cell? ⟨g, 3, none⟩ = some (.slice Cx t.cons.length kC) ∧ w'.cell? ⟨w.heap.size, 0, none⟩ = some (.slice a x.length ka) ∧ w'.cell? ⟨w.heap.size + 1, 0, none⟩ = some (.slice c y.length kc) ∧ w'.cell? ⟨w.heap.size + 1 + 1, 0, none⟩ = some (.slice d z.length kd)) (by kernel_rfl) (by simp) (by kernel_rfl) (K0.out _ o0) (fun hHeld => ?_)
 simp only [List.dropLast_cons_cons, List.dropLast_singleton, List.getLast_cons_cons, List.getLast_singleton]
 refine wpAnyH_take (i := 0) rfl (by kernel_rfl) (by kernel_rfl) (by kernel_rfl) (fun _ _ _ h => h) (v := ?_) (Or.inl ⟨by rfl, ?_⟩) (by assumption) ?_
 case refine_2 => (intro w hSw; (try dsimp only at hSw); go_simp; (try with_reducible rfl))
 try simp only [Act.put, List.setIfInBounds_toArray, List.set_cons_zero, List.set_cons_succ, List.getElem_toArray, List.getElem_cons_succ, List.getElem_cons_zero]
 refine wpAnyH_take (i := 1) rfl (by kernel_rfl) (by kernel_rfl) (by kernel_rfl) (fun _ _ _ h => h) (v := ?_) (Or.inl ⟨by rfl, ?_⟩) (by assumption) ?_
 case refine_2 => (intro w hSw; (try dsimp only at hSw); go_simp; (try with_reducible rfl))
 try simp only [Act.put, List.setIfInBounds_toArray, List.set_cons_zero, List.set_cons_succ, List.getElem_toArray, List.getElem_cons_succ, List.getElem_cons_zero]
 refine wpAnyH_take (i := 2) rfl (by kernel_rfl) (by kernel_rfl) (by kernel_rfl) (fun _ _ _ h => h) (v := ?_) (Or.inl ⟨by rfl, ?_⟩) (by assumption) ?_
 case refine_2 => (intro w hSw; (try dsimp only at hSw); go_simp; (try with_reducible rfl))
 try simp only [Act.put, List.setIfInBounds_toArray, List.set_cons_zero, List.set_cons_succ, List.getElem_toArray, List.getElem_cons_succ, List.getElem_cons_zero]
 refine wpAnyH_take (i := 3) rfl (by kernel_rfl) (by kernel_rfl) (by kernel_rfl) (fun _ _ _ h => h) (v := ?_) (Or.inl ⟨by rfl, ?_⟩) (by assumption) ?_
 case refine_2 => (intro w hSw; (try dsimp only at hSw); go_simp; (try with_reducible rfl))
 try simp only [Act.put, List.setIfInBounds_toArray, List.set_cons_zero, List.set_cons_succ, List.getElem_toArray, List.getElem_cons_succ, List.getElem_cons_zero]
 refine wpAnyH_take (i := 4) rfl (by kernel_rfl) (by kernel_rfl) (by kernel_rfl) (fun _ _ _ h => h) (v := ?_) (Or.inl ⟨by rfl, ?_⟩) (by assumption) ?_
 case refine_2 => (intro w hSw; (try dsimp only at hSw); go_simp; (try with_reducible rfl))
 try simp only [Act.put, List.setIfInBounds_toArray, List.set_cons_zero, List.set_cons_succ, List.getElem_toArray, List.getElem_cons_succ, List.getElem_cons_zero]
 refine wpAnyH_take (i := 5) rfl (by kernel_rfl) (by kernel_rfl) (by kernel_rfl) (fun _ _ _ h => h) (v := ?_) (Or.inl ⟨by rfl, ?_⟩) (by assumption) ?_
 case refine_2 => (intro w hSw; (try dsimp only at hSw); go_simp; (try with_reducible rfl))
 try simp only [Act.put, List.setIfInBounds_toArray, List.set_cons_zero, List.set_cons_succ, List.getElem_toArray, List.getElem_cons_succ, List.getElem_cons_zero]
 refine wpAnyH_take (i := 6) rfl (by kernel_rfl) (by kernel_rfl) (by kernel_rfl) (fun _ _ _ h => h) (v := ?_) (Or.inl ⟨by rfl, ?_⟩) (by assumption) ?_
 case refine_2 => (intro w hSw; (try dsimp only at hSw); go_simp; (try with_reducible rfl))
 try simp only [Act.put, List.setIfInBounds_toArray, List.set_cons_zero, List.set_cons_succ, List.getElem_toArray, List.getElem_cons_succ, List.getElem_cons_zero]
 refine wpAnyH_take (i := 7) rfl (by kernel_rfl) (by kernel_rfl) (by kernel_rfl) (fun _ _ _ h => h) (v := ?_) (Or.inl ⟨by rfl, ?_⟩) (by assumption) ?_
 case refine_2 => (intro w hSw; (try dsimp only at hSw); go_simp; (try with_reducible rfl))
 try simp only [Act.put, List.setIfInBounds_toArray, List.set_cons_zero, List.set_cons_succ, List.getElem_toArray, List.getElem_cons_succ, List.getElem_cons_zero]
 refine wpAnyH_take (i := 8) rfl (by kernel_rfl) (by kernel_rfl) (by kernel_rfl) (fun _ _ _ h => h) (v := ?_) (Or.inl ⟨by rfl, ?_⟩) (by assumption) ?_
 case refine_2 => (intro w hSw; (try dsimp only at hSw); go_simp; (try with_reducible rfl))
 try simp only [Act.put, List.setIfInBounds_toArray, List.set_cons_zero, List.set_cons_succ, List.getElem_toArray, List.getElem_cons_succ, List.getElem_cons_zero]
 refine wpAnyH_ready (rs := [9]) (by kernel_rfl) (by simp) ?_
 refine AllReadyH.cons rfl (fun K hK => ?_) AllReadyH.nil
 go_simp
 have oS := o0.alloc (.cells #[.slice a x.length ka, .slice c y.length kc, .slice d z.length kd] 84)
 refine hK.out _ _ (K0.out _ oS) (fun hHeld => ?_)
 clear hK K
 try simp only [Act.put, List.setIfInBounds_toArray, List.set_cons_zero, List.set_cons_succ, List.getElem_toArray, List.getElem_cons_succ, List.getElem_cons_zero]
 refine wpAnyH_ready (rs := [10]) (by kernel_rfl) (by simp) ?_
 refine AllReadyH.cons rfl (fun K hK => ?_) AllReadyH.nil
 refine step_append_growF (w2.drew.alloc (.cells #[.slice a x.length ka, .slice c y.length kc, .slice d z.length kd] 84)) rfl _ _ 34 rfl 84 j3 (.agg #[.slice none 0 0, .slice none 0 0, .slice none 0 0]) 72 Tryz.underlying34 hj3 hz3 hs3 hb3 rfl (by decide) (.slice Cx t.cons.length kC) t.cons rfl GA [.slice a x.length ka, .slice c y.length kc, .slice d z.length kd] ⟨x, y, z⟩ Gx ⟨_, _, _, l1, h1, l2, h2, l3, h3, rfl, p1, p2, p3, fun q => (by cases q), ta, tb, tc⟩ w2.drew.heap.size (0, 0) rfl (heap_alloc_new w2.drew _) (fun q r s => (Q4.out q (Q3.out q (.inr (.inl s)))).2 (Q2.out q r).1) (fun q r => by have := LIMR.out q r; simp; omega) (fun q r => ⟨by have := (HG.out q r).1; simp; omega, fun s => (HG.out q r).2 (Q2.out q s).1⟩) (fun q => by cases q) (by omega) (by omega) (by simp; omega) ?_
 rintro g' cap' y1 ⟨⟨Gn, on1⟩, lc1⟩
 have oy := oS.trans on1
 have zy := on1.size
 simp only [World.size_alloc] at zy
 refine hK.out _ _ (K0.out _ oy) (fun hHeld => ?_)
 clear hK K
 try simp only [Act.put, List.setIfInBounds_toArray, List.set_cons_zero, List.set_cons_succ, List.getElem_toArray, List.getElem_cons_succ, List.getElem_cons_zero]
 refine wpAnyH_take (i := 11) rfl (by kernel_rfl) (by kernel_rfl) (by kernel_rfl) (fun _ _ _ h => h) (v := ?_) (Or.inl ⟨by rfl, ?_⟩) (by assumption) ?_
 case refine_2 => (intro w hSw; (try dsimp only at hSw); go_simp; (try with_reducible rfl))
 try simp only [Act.put, List.setIfInBounds_toArray, List.set_cons_zero, List.set_cons_succ, List.getElem_toArray, List.getElem_cons_succ, List.getElem_cons_zero]
 refine wpAnyH_take (i := 12) rfl (by kernel_rfl) (by kernel_rfl) (by kernel_rfl) (fun _ _ _ h => h) (v := ?_) (Or.inl ⟨by rfl, ?_⟩) (by assumption) ?_
 case refine_2 => (intro w hSw; (try dsimp only at hSw); go_simp; (try with_reducible rfl))
 try simp only [Act.put, List.setIfInBounds_toArray, List.set_cons_zero, List.set_cons_succ, List.getElem_toArray, List.getElem_cons_succ, List.getElem_cons_zero]
 refine wpAnyH_done (by kernel_rfl) ?_ _
 show Oper.wp _ _ _ _ _ _
 obtain ⟨M5, X5⟩ := Mdl.coned hg LQ.out fi fr bx rO g1 Q1.out Q2.out Q3.out Q4.out fS on1 Gn HG.out
 have cg := (K0.out _ oy).1
 have fgy := KR.out _ oy
 have lgy : g < y1.heap.size := by omega
 clear K0 KR SAME hHeld oS o0 fS GA ta tb tc g1 g2 rO bx Gn on1 oy tx ty tz
 go_simp
 first | go_end0 | (simp only [Exit.inBlock, Exit.then]; refine bodyPost_ret (results_none rfl _ _ _) rfl ?_) | refine bodyPost_ret (results_none rfl _ _ _) rfl ?_
 exact RetC.of rfl M5 X5 (fun q r => by rcases r with r | r; exact .inl r; exact .inr (.inl r))
end Go.Proofs.YtcenijdaacbgpaaGreat.L

/- The model's l4mul and AddMul. -/
namespace Go.Proofs.YtcenijdaacbgpaaGreat.L
open Go.RowKit Go.Proofs.YtcenijdaacbgpaaGreat.S
set_option linter.unusedVariables false
theorem OwnS.agree4 {lo : Nat} {w w' : World} {ui uo uh uc : Value} {s : SysC} (own : OwnS lo w.heap.size w ui uo uh uc s) (b : Below w.heap.size w w') : OwnS lo w.heap.size w' ui uo uh uc s := by
 obtain ⟨e, fi, m1, m2, p1, p2, p3, O0, O1, O2⟩ := own
 exact ⟨e, fi, m1, m2, p1, p2, p3, O0.keep b (by omega), O1.keep b (by omega), O2.keep b (Nat.le_refl _)⟩
theorem mayL_ok' {s : SysC} {ls : List (List T)} (h : mayL s ls = true) : sysOk s = true := by unfold mayL at h; exact (Bool.and_eq_true _ _ ▸ h).1
theorem GrowF.low {α : Type} {E : FShape α} {e : TypeId} {o : Bool} {base base' : Nat} {R F : Nat → Prop} {w : World} {v : Value} {xs : List α} (g : GrowF E e o base R F w v xs) (h : base' ≤ base) : GrowF E e o base' R F w v xs := by
 obtain ⟨css, G, ⟨a1, a2⟩, h2, h3, h4, h5, h6⟩ := g
 refine ⟨css, G, ⟨a1, ?_⟩, h2, h3, h4, h5, h6⟩
 rcases a2 with a2 | ⟨b, cap, cur, e1, e2, e3⟩
 ·exact .inl a2
 ·exact .inr ⟨b, cap, cur, e1, by omega, e3⟩
theorem Mdl.start {lo hi g : Nat} {w : World} {ui uo uh uc : Value} {s : SysC} (own : OwnS lo hi w ui uo uh uc s) (hg : hi ≤ g) (lg : g < w.heap.size) (bx : Box4 w g ui uo uh uc) (fr : Free4 w g) :
  ∃ Q, Mdl lo g s Q (fun k => lo ≤ k ∧ k < hi ∧ ¬ Q k) w ∧ (∀ k, Q k → lo ≤ k) := by
 obtain ⟨rfl, fi, m1, m2, p1, p2, p3, O0, O1, O2⟩ := own
 obtain ⟨R1, F1, G1, a1, a2, a3⟩ := O1.grow
 obtain ⟨R2, F2, G2, b1, b2, b3⟩ := O2.grow
 refine ⟨fun k => k = g ∨ R1 k ∨ R2 k, ⟨.inl rfl, fun k q => ?_, fi, fr, _, _, _, bx, R1, F1, R2, F2, fun k => lo ≤ k ∧ k < m1, O0.rowF (by omega), (G1.unown hint_unown).low p1, (G2.unown con_unown).low (by omega), fun k q => ⟨.inr (.inl q), by have := a1 k q; omega⟩, fun k q => ⟨.inr (.inr q), by have := b1 k q; omega, fun r => by have := a1 k r; have := b1 k q; omega⟩, fun k q => ?_, fun k q => ⟨by have := q.2.1; omega, q.2.2⟩⟩, fun k q => ?_⟩
 ·rcases q with q | q | q
  ·omega
  ·have := a1 k q; omega
  ·have := b1 k q; omega
 ·rcases q with q | q | q
  ·have h := a2 k q
   exact ⟨by omega, by omega, fun r => by rcases r with r | r | r; omega; exact a3 k r q; have := b1 k r; omega⟩
  ·have h := b2 k q
   exact ⟨by omega, by omega, fun r => by rcases r with r | r | r; omega; have := a1 k r; omega; exact b3 k r q⟩
  ·exact ⟨q.1, by have := q.2; omega, fun r => by rcases r with r | r | r; have := q.2; omega; have := a1 k r; have := q.2; omega; have := b1 k r; have := q.2; omega⟩
 ·rcases q with q | q | q
  ·omega
  ·have := a1 k q; omega
  ·have := b1 k q; omega
theorem small_mul {s : SysC} {x y : List T} (sm : Small s) (hk : sysOk s = true) (nx : x.length ≤ 1048576) (ny : y.length ≤ 1048576) : Small (mulS s x y) := by
 have lim := limB_facts (sysOk_limB hk)
 obtain ⟨a1, a2, a3, a4, a5, a6⟩ := sm
 refine ⟨a1, ?_, ?_, a4, fun h hh => ?_, fun c hc => ?_⟩
 ·show (s.hints ++ [_]).length ≤ _
  simp; omega
 ·show (s.cons ++ [_]).length ≤ _
  simp; omega
 ·rcases List.mem_append.1 (show h ∈ s.hints ++ [⟨0, x, y, 0⟩] from hh) with h1 | h1
  ·exact a5 h h1
  ·rw [List.mem_singleton] at h1; subst h1; exact ⟨nx, ny⟩
 ·rcases List.mem_append.1 (show c ∈ s.cons ++ [⟨x, y, sVar s⟩] from hc) with h1 | h1
  ·exact a6 c h1
  ·rw [List.mem_singleton] at h1; subst h1; exact ⟨nx, ny, by simp [sVar]⟩

end Go.Proofs.YtcenijdaacbgpaaGreat.L

/- What the builder adds and what the model adds are the same: AddMul, AddBool, AddEq. -/
namespace Go.Proofs.YtcenijdaacbgpaaGreat.L
open Go.RowKit Go.Proofs.YtcenijdaacbgpaaGreat.S
set_option linter.unusedVariables false
set_option linter.unusedSimpArgs false

theorem mayL_in {s : SysC} {ls : List (List T)} (h : mayL s ls = true) : sysOk s = true ∧ ∀ x ∈ ls, linW (varsN s) x = true := by
 unfold mayL at h
 rw [Bool.and_eq_true, List.all_eq_true] at h
 exact h
theorem linW_var {v : Int} (h0 : 0 ≤ v) (h1 : v + 1 ≤ 3000) : linW (v + 1) [(v, 1)] = true := by
 unfold linW linOk okFrom
 simp [okFrom]
 omega
theorem addMul_same {s : SysC} {x y : List T} (hm : mayL s [x, y] = true) :
  bOk (mulB s ⟨[], [], 0⟩ x y) = sysOk (mulS s x y) ∧ bSys s (mulB s ⟨[], [], 0⟩ x y) = (if sysOk (mulS s x y) = true then mulS s x y else s) ∧ (sysOk (mulS s x y) = true → bVar s ⟨[], [], 0⟩ = sVar s) := by
 obtain ⟨hs, hl⟩ := mayL_in hm
 have hx := hl x (by simp)
 have hy := hl y (by simp)
 have lim := limB_facts (sysOk_limB hs)
 have S0 := Sim.start hs
 have S1 : Sim s (bHint s ⟨[], [], 0⟩ ⟨0, x, y, 0⟩) (sHint s ⟨0, x, y, 0⟩) := S0.hint fun _ => ⟨rfl, by unfold hintW; rw [hx, hy]; simp [kindOk]⟩
 have S2 : Sim s (mulB s ⟨[], [], 0⟩ x y) (mulS s x y) := S1.con fun r => by
  refine ⟨by rw [S0.vars r], ?_⟩
  have hv : varsN (sHint s ⟨0, x, y, 0⟩) = varsN s + 1 := varsN_hint _ _
  have q := r.1
  rw [hv] at q
  unfold conW
  rw [hv, linW_mono hx (by omega), linW_mono hy (by omega), show linW (varsN s + 1) (sVar s) = true from linW_var (by unfold varsN; omega) q]
  rfl
 obtain ⟨d1, d2, d3⟩ := S2.done hs
 refine ⟨d1, ?_, fun h => S0.vars (Room.con (d2 h).2)⟩
 cases hk : sysOk (mulS s x y)
 ·rw [d3 hk]; rfl
 ·rw [(d2 hk).1]; rfl
/-- The three answers, as the program gives them and as the model does. -/
theorem addMul_answers (s : SysC) (x y : List T) :
  (mayL s [x, y] && bOk (mulB s ⟨[], [], 0⟩ x y)) = (mayL s [x, y] && sysOk (mulS s x y)) ∧
  (if mayL s [x, y] = true then bSys s (mulB s ⟨[], [], 0⟩ x y) else sys0) = (if mayL s [x, y] = true then (if sysOk (mulS s x y) = true then mulS s x y else s) else sys0) ∧
  (if (mayL s [x, y] && bOk (mulB s ⟨[], [], 0⟩ x y)) = true then bVar s ⟨[], [], 0⟩ else []) = (if (mayL s [x, y] && sysOk (mulS s x y)) = true then sVar s else []) := by
 cases hm : mayL s [x, y]
 ·simp
 ·obtain ⟨h1, h2, h3⟩ := addMul_same hm
  refine ⟨by rw [h1], by rw [if_pos rfl, if_pos rfl, h2], ?_⟩
  rw [h1]
  cases hk : sysOk (mulS s x y)
  ·rfl
  ·simp [h3 hk]
end Go.Proofs.YtcenijdaacbgpaaGreat.L
