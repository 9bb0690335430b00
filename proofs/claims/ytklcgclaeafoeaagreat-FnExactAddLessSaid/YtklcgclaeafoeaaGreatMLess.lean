/- The model's l4less (written by tools/gen/less.py). -/
import Derived.Test.YtklcgclaeafoeaaGreatLessR
import Derived.Test.YtklcgclaeafoeaaGreatMBits
import Derived.Test.YtklcgclaeafoeaaGreatMGate2
import Derived.Test.YtklcgclaeafoeaaGreatB17
import Derived.Test.YtklcgclaeafoeaaGreatPack
import Derived.Deep.DeepCutAuto
namespace Go.Proofs.YtklcgclaeafoeaaGreat.L
open Go.RowKit Go.Proofs.YtklcgclaeafoeaaGreat.S
set_option linter.unusedVariables false
set_option linter.unusedSimpArgs false

theorem KIn.constOf (k : Int) : KIn (constOf k) := by
 unfold L.constOf; split
 ·exact KIn.nil
 ·exact KIn.one (by omega) (by omega)
set_option maxRecDepth 100000 in
set_option maxHeartbeats 12800000 in
theorem less_spec (base g : Nat) (t : SysC) (Q A Gx : Nat → Prop) (ox : Bool) (vx : Value) (x : List T) (oy : Bool) (vy : Value) (y : List T) (n : Nat) (w : World) (M : Mdl base g t Q A w) (hb : base ≤ w.heap.size) (tx : TermsF ox Gx w vx x) (ty : TermsF oy Gx w vy y) (hG : ∀ k, Gx k → k < w.heap.size ∧ ¬ Q k)
  (ix : KIn x) (iy : KIn y) (nx : x.length ≤ 200000) (ny : y.length ≤ 200000) (hn : n ≤ 29) (i0 : 0 ≤ t.ins) (i1 : t.ins ≤ 100) (nh : t.hints.length ≤ 900000) (nc : t.cons.length ≤ 900000) :
  Calls Tryz.prog 22 #[.pointer (some ⟨g, 0, none⟩), .agg #[vx], .agg #[vy], .int .i64 n] w (RetM base g (lessS t x y n) (lessZ t x y n) Q A Gx w) := by
 obtain ⟨ax, kx, rfl, lx, mx⟩ := tx.shape
 obtain ⟨ay, ky, rfl, ly, my⟩ := ty.shape
 have LQ := Lib.hid M.lim
 have EL := Lib.hid M.els
 have HG := Lib.hid hG
 have NQ : Hid (∀ i, w.heap.size ≤ i → ¬ Q i) := Lib.hid fun i hi q => by have := LQ.out i q; omega
 clear hG
 obtain ⟨pw1, pw2⟩ := pow_lt (show n < 30 by omega)
 have wsh : IntKind.i64.wrap ((2 : Int) ^ n) = (2 : Int) ^ n := IntWalk.i64_in _ (by omega)
 have wad : IntKind.i64.wrap ((n : Int) + 1) = (n : Int) + 1 := IntWalk.i64_in _ (by omega)
 have nD : Hid ((lessD x y n).length ≤ 500000) := Lib.hid (by
  have h1 := mrg_length 2147483646 x y
  have h2 := mrg_length 1 (mrg 2147483646 x y) (constOf ((2 : Int) ^ n))
  have h3 := constOf_len ((2 : Int) ^ n)
  unfold lessD; omega)
 go_enter Tryz.func22, Tryz.ntmps22
 go_wp2_with fail
 refine name_wp fun w1 hw1 => ?_
 have e1 : Below w.heap.size w w1 := by rw [hw1]; (repeat (with_reducible first | exact bR _ _ | assumption | refine bD ?_ | refine bN ?_ _ | refine bA ?_ _ | refine bS ?_ _))
 have z1 : w.heap.size + 3 ≤ w1.heap.size := by rw [hw1]; simp
 have cx1 : w1.cell? ⟨w.heap.size, 0, none⟩ = some (.slice ax x.length kx) := by rw [hw1]; first | (simp; done) | go_simp
 have cy1 : w1.cell? ⟨w.heap.size + 1, 0, none⟩ = some (.slice ay y.length ky) := by rw [hw1]; first | (simp; done) | go_simp
 have cR1 : w1.cell? ⟨w.heap.size + 1 + 1, 0, none⟩ = some (.slice none 0 0) := by rw [hw1]; first | (simp; done) | go_simp
 have fR1 : w1.frozen? ⟨w.heap.size + 1 + 1, 0, none⟩ = false := by rw [hw1]; first | (simp; done) | go_simp
 clear hw1
 generalize hd : w1.drew = wd
 have ed : Below w1.heap.size w1 wd := by rw [← hd]; exact (Below.refl _ _).drew
 have zd := ed.size
 have e0 : Below w.heap.size w wd := e1.trans (ed.mono (by omega))
 have X1 : Ext Q Q w wd := .of_below e0
 have cx := cell_keep ed cx1
 have cy := cell_keep ed cy1
 have cR := cell_keep ed cR1
 have fR : wd.frozen? ⟨w.heap.size + 1 + 1, 0, none⟩ = false := (ed.frozen (p := ⟨w.heap.size + 1 + 1, 0, none⟩) (show w.heap.size + 1 + 1 < w1.heap.size by omega)).trans fR1
 have K0 : Hid (∀ w', Below wd.heap.size wd w' → w'.cell? ⟨w.heap.size, 0, none⟩ = some (.slice ax x.length kx) ∧ w'.cell? ⟨w.heap.size + 1, 0, none⟩ = some (.slice ay y.length ky)) := Lib.hid fun w' h => ⟨cell_keep h cx, cell_keep h cy⟩
 have K1 : Hid (∀ Q' w', Ext Q Q' wd w' → w'.cell? ⟨w.heap.size + 1 + 1, 0, none⟩ = some (.slice none 0 0) ∧ w'.frozen? ⟨w.heap.size + 1 + 1, 0, none⟩ = false ∧ ¬ Q' (w.heap.size + 1 + 1)) := Lib.hid fun Q' w' h => ⟨(h.cell (by omega) (NQ.out _ (by omega)) 0).trans cR, (h.frozen (by omega) (NQ.out _ (by omega)) 0).trans fR, h.not (by omega) (NQ.out _ (by omega))⟩
 have Hx : Hid (∀ w', Below wd.heap.size wd w' → TermsF ox Gx w' (.slice ax x.length kx) x) := Lib.hid fun w' h => tx.agree (SameF.of_below (e0.trans (h.mono (by omega))) (fun k q => (HG.out k q).1))
 have Hy : Hid (∀ w', Below wd.heap.size wd w' → TermsF oy Gx w' (.slice ay y.length ky) y) := Lib.hid fun w' h => ty.agree (SameF.of_below (e0.trans (h.mono (by omega))) (fun k q => (HG.out k q).1))
 have MM := Lib.hid (M.below e0)
 have XX := Lib.hid X1
 have zw : w.heap.size + 3 ≤ wd.heap.size := by omega
 clear e1 ed cR fR cR1 fR1 X1 M cx1 cx tx cy1 cy ty e0
 subst hd
 go_cut [9] (fun s9 wx => CutY (lessD x y n) w1.drew s9 wx)
 case first =>
  rename_i J K' hJ hK
  refine wp_region_drawn [9, 11, 12, 13, 14, 15, 16, 17] (fun d u wx => (d 2 = true → d 0 = true ∧ d 1 = true) ∧ (d 4 = true → d 3 = true) ∧ (d 5 = true → d 3 = true ∧ d 4 = true) ∧ (d 6 = true → d 0 = true ∧ d 1 = true ∧ d 2 = true ∧ d 3 = true ∧ d 4 = true ∧ d 5 = true) ∧ (d 8 = true → d 0 = true ∧ d 1 = true ∧ d 2 = true ∧ d 3 = true ∧ d 4 = true ∧ d 5 = true ∧ d 6 = true ∧ d 7 = true) ∧ (d 0 = true → u 11 = .agg #[.slice ax x.length kx]) ∧ (d 1 = true → u 12 = .agg #[.slice ay y.length ky]) ∧ (d 3 = true → u 14 = .int .i64 n) ∧ (d 4 = true → u 15 = .int .i64 ((2 : Int) ^ n)) ∧ (d 8 = false → Below w1.drew.heap.size w1.drew wx ∧ TV w1.drew (d 2) (u 13) (mrg 2147483646 x y) wx ∧ YR (constOf ((2 : Int) ^ n)) (lessD x y n) w1.drew (d 5) (d 6) (d 7) (u 16) (u 17) (u 9) wx) ∧ (d 8 = true → CutY (lessD x y n) w1.drew (u 9) wx)) (by kernel_rfl) (by kernel_rfl) (by kernel_rfl) ?_ ?_ ?_
  ·intro u; exact ⟨fun h => (by cases h), fun h => (by cases h), fun h => (by cases h), fun h => (by cases h), fun h => (by cases h), fun h => (by cases h), fun h => (by cases h), fun h => (by cases h), fun h => (by cases h), fun _ => ⟨Below.refl _ _, TV.none, YR.start⟩, fun h => (by cases h)⟩
  ·refine ⟨?_, ?_, ?_, ?_, ?_, ?_, ?_, ?_, ?_, trivial⟩
   ·intro d u wx h0 hdp hF
    obtain ⟨g2, g4, g5, g6, g8, v0, v1, v3, v4, fP, fC⟩ := hF
    have n2 : d 2 = false := by cases h : d 2; rfl; have := (g2 h).1; rw [show d 0 = false from h0] at this; cases this
    have n6 : d 6 = false := by cases h : d 6; rfl; have := (g6 h).1; rw [show d 0 = false from h0] at this; cases this
    have n8 : d 8 = false := by cases h : d 8; rfl; have := (g8 h).1; rw [show d 0 = false from h0] at this; cases this
    refine Wpv.env fun ρ hin hout hcon hfun => ?_
    have Ea : ρ (.tmp 5) = .pointer (some ⟨w.heap.size, 0, none⟩) := (hout 5 (by kernel_rfl)).trans (by kernel_rfl)
    clear hin hout
    obtain ⟨bX, -⟩ := id (fP n8)
    have c0 := (K0.out _ bX).1
    refine Wpv.value (v := .agg #[.slice ax x.length kx]) (w' := wx) ?_ ⟨nopm n2, g4, g5, nopm n6, nopm n8, (fun _ => rfl), v1, v3, v4, fP, nopm n8⟩
    clear g2 g4 g5 g6 g8 v0 v1 v3 v4 fP fC bX
    simp only [execOp]; rw [Ea]; go_simp
   ·intro d u wx h0 hdp hF
    obtain ⟨g2, g4, g5, g6, g8, v0, v1, v3, v4, fP, fC⟩ := hF
    have n2 : d 2 = false := by cases h : d 2; rfl; have := (g2 h).2; rw [show d 1 = false from h0] at this; cases this
    have n6 : d 6 = false := by cases h : d 6; rfl; have := (g6 h).2.1; rw [show d 1 = false from h0] at this; cases this
    have n8 : d 8 = false := by cases h : d 8; rfl; have := (g8 h).2.1; rw [show d 1 = false from h0] at this; cases this
    refine Wpv.env fun ρ hin hout hcon hfun => ?_
    have Ea : ρ (.tmp 6) = .pointer (some ⟨w.heap.size + 1, 0, none⟩) := (hout 6 (by kernel_rfl)).trans (by kernel_rfl)
    clear hin hout
    obtain ⟨bX, -⟩ := id (fP n8)
    have c0 := (K0.out _ bX).2
    refine Wpv.value (v := .agg #[.slice ay y.length ky]) (w' := wx) ?_ ⟨nopm n2, g4, g5, nopm n6, nopm n8, v0, (fun _ => rfl), v3, v4, fP, nopm n8⟩
    clear g2 g4 g5 g6 g8 v0 v1 v3 v4 fP fC bX
    simp only [execOp]; rw [Ea]; go_simp
   ·intro d u wx h0 hdp hF
    obtain ⟨g2, g4, g5, g6, g8, v0, v1, v3, v4, fP, fC⟩ := hF
    have n6 : d 6 = false := by cases h : d 6; rfl; have := (g6 h).2.2.1; rw [show d 2 = false from h0] at this; cases this
    have n8 : d 8 = false := by cases h : d 8; rfl; have := (g8 h).2.2.1; rw [show d 2 = false from h0] at this; cases this
    have gk : d 0 = true ∧ d 1 = true := ⟨hdp.get (j := 0) (by kernel_rfl), hdp.get (j := 1) (by kernel_rfl)⟩
    refine Wpv.env fun ρ hin hout hcon hfun => ?_
    have E0 := (hin 11 (by kernel_rfl)).trans (v0 (hdp.get (j := 0) (by kernel_rfl)))
    have E1 := (hin 12 (by kernel_rfl)).trans (v1 (hdp.get (j := 1) (by kernel_rfl)))
    clear hin hout
    obtain ⟨bX, t2, Y⟩ := id (fP n8)
    refine Wpv.enter (f := 51) (args := #[.agg #[.slice ax x.length kx], .agg #[.slice ay y.length ky]]) (w' := wx) (by clear g2 g4 g5 g6 g8 v0 v1 v3 v4 fP fC t2 Y bX; simp only [execOp]; first | (rw [hcon]; go_simp) | go_simp) (l2sub_wide _ _ _ _ x _ _ _ _ y wx (TermsF.read (Hx.out _ bX)) (Nat.le_refl _) (TermsF.read (Hy.out _ bX)) (Nat.le_refl _) ix iy (by omega) (by omega)) ?_
    rintro e' w' ⟨a9, rfl, j1, tN⟩
    obtain ⟨p9, k9, rfl, -⟩ := tN.shape
    exact ⟨_, rfl, ⟨(fun _ => gk), g4, g5, nopm n6, nopm n8, v0, v1, v3, v4, (fun _ => ⟨bX.trans (j1.mono bX.size), TV.new bX.size tN, Y.keep j1⟩), nopm n8⟩⟩
   ·intro d u wx h0 hdp hF
    obtain ⟨g2, g4, g5, g6, g8, v0, v1, v3, v4, fP, fC⟩ := hF
    have n4 : d 4 = false := by cases h : d 4; rfl; have := (g4 h); rw [show d 3 = false from h0] at this; cases this
    have n5 : d 5 = false := by cases h : d 5; rfl; have := (g5 h).1; rw [show d 3 = false from h0] at this; cases this
    have n6 : d 6 = false := by cases h : d 6; rfl; have := (g6 h).2.2.2.1; rw [show d 3 = false from h0] at this; cases this
    have n8 : d 8 = false := by cases h : d 8; rfl; have := (g8 h).2.2.2.1; rw [show d 3 = false from h0] at this; cases this
    refine Wpv.env fun ρ hin hout hcon hfun => ?_
    have Ea : ρ (.tmp 3) = .int .i64 n := (hout 3 (by kernel_rfl)).trans (by kernel_rfl)
    clear hin hout
    exact Wpv.value (v := .int .i64 n) (w' := wx) (by clear g2 g4 g5 g6 g8 v0 v1 v3 v4 fP fC; simp only [execOp]; rw [Ea]; go_simp) ⟨g2, nopm n4, nopm n5, nopm n6, nopm n8, v0, v1, (fun _ => rfl), nopm n4, fP, nopm n8⟩
   ·intro d u wx h0 hdp hF
    obtain ⟨g2, g4, g5, g6, g8, v0, v1, v3, v4, fP, fC⟩ := hF
    have n5 : d 5 = false := by cases h : d 5; rfl; have := (g5 h).2; rw [show d 4 = false from h0] at this; cases this
    have n6 : d 6 = false := by cases h : d 6; rfl; have := (g6 h).2.2.2.2.1; rw [show d 4 = false from h0] at this; cases this
    have n8 : d 8 = false := by cases h : d 8; rfl; have := (g8 h).2.2.2.2.1; rw [show d 4 = false from h0] at this; cases this
    have gk : d 3 = true := hdp.get (j := 3) (by kernel_rfl)
    refine Wpv.env fun ρ hin hout hcon hfun => ?_
    have Ea := (hin 14 (by kernel_rfl)).trans (v3 (hdp.get (j := 3) (by kernel_rfl)))
    clear hin hout
    refine Wpv.value (v := .int .i64 ((2 : Int) ^ n)) (w' := wx) ?_ ⟨g2, (fun _ => gk), nopm n5, nopm n6, nopm n8, v0, v1, v3, (fun _ => rfl), fP, nopm n8⟩
    clear g2 g4 g5 g6 g8 v0 v1 v3 v4 fP fC
    simp only [execOp]; rw [Ea]; first | (go_simp; done) | (go_simp; intro hh; exact absurd hh (by omega))
   ·intro d u wx h0 hdp hF
    obtain ⟨g2, g4, g5, g6, g8, v0, v1, v3, v4, fP, fC⟩ := hF
    have n6 : d 6 = false := by cases h : d 6; rfl; have := (g6 h).2.2.2.2.2; rw [show d 5 = false from h0] at this; cases this
    have n8 : d 8 = false := by cases h : d 8; rfl; have := (g8 h).2.2.2.2.2.1; rw [show d 5 = false from h0] at this; cases this
    have gk : d 3 = true ∧ d 4 = true := ⟨(g4 (hdp.get (j := 4) (by kernel_rfl))), hdp.get (j := 4) (by kernel_rfl)⟩
    refine Wpv.env fun ρ hin hout hcon hfun => ?_
    have E0 := (hin 15 (by kernel_rfl)).trans (v4 (hdp.get (j := 4) (by kernel_rfl)))
    clear hin hout
    obtain ⟨bX, t2, Y⟩ := id (fP n8)
    refine Wpv.enter (f := 52) (args := #[.int .i64 ((2 : Int) ^ n)]) (w' := wx) (by clear g2 g4 g5 g6 g8 v0 v1 v3 v4 fP fC t2 Y bX; simp only [execOp]; first | (rw [hcon]; go_simp) | go_simp) (l2const_any ((2 : Int) ^ n) wx (by omega) (by omega)) ?_
    rintro e' w' ⟨a9, rfl, j1, tN⟩
    obtain ⟨p9, k9, rfl, -⟩ := tN.shape
    exact ⟨_, rfl, ⟨g2, g4, (fun _ => gk), nopm n6, nopm n8, v0, v1, v3, v4, (fun _ => ⟨bX.trans (j1.mono bX.size), t2.keep j1, Y.const j1 tN⟩), nopm n8⟩⟩
   ·intro d u wx h0 hdp hF
    obtain ⟨g2, g4, g5, g6, g8, v0, v1, v3, v4, fP, fC⟩ := hF
    have n8 : d 8 = false := by cases h : d 8; rfl; have := (g8 h).2.2.2.2.2.2.1; rw [show d 6 = false from h0] at this; cases this
    have gk : d 0 = true ∧ d 1 = true ∧ d 2 = true ∧ d 3 = true ∧ d 4 = true ∧ d 5 = true := ⟨(g2 (hdp.get (j := 2) (by kernel_rfl))).1, (g2 (hdp.get (j := 2) (by kernel_rfl))).2, hdp.get (j := 2) (by kernel_rfl), (g5 (hdp.get (j := 5) (by kernel_rfl))).1, (g5 (hdp.get (j := 5) (by kernel_rfl))).2, hdp.get (j := 5) (by kernel_rfl)⟩
    refine Wpv.env fun ρ hin hout hcon hfun => ?_
    have E0 := hin 13 (by kernel_rfl)
    have E1 := hin 16 (by kernel_rfl)
    clear hin hout
    obtain ⟨bX, t2, Y⟩ := id (fP n8)
    obtain ⟨a0, k0, e0, T0⟩ := t2 (hdp.get (j := 2) (by kernel_rfl))
    have y0 := E0.trans e0
    clear E0 e0
    obtain ⟨a1, k1, e1, T1⟩ := Y.2.1 (hdp.get (j := 5) (by kernel_rfl))
    have y1 := E1.trans e1
    clear E1 e1
    refine Wpv.enter (f := 50) (args := #[.agg #[.slice a0 (mrg 2147483646 x y).length k0], .agg #[.slice a1 (constOf ((2 : Int) ^ n)).length k1], .int .i64 1]) (w' := wx) (by clear g2 g4 g5 g6 g8 v0 v1 v3 v4 fP fC T0 T1 t2 Y bX; simp only [execOp]; first | (rw [hcon]; go_simp) | go_simp) (l2add_wide _ _ _ _ (mrg 2147483646 x y) _ _ _ _ (constOf ((2 : Int) ^ n)) 1 wx T0 (Nat.le_refl _) T1 (Nat.le_refl _) (by omega) (by omega) (KIn.mrg ix) (KIn.constOf _) (Nat.le_trans (mrg_length _ _ _) (by omega)) (Nat.le_trans (constOf_len _) (by omega))) ?_
    rintro e' w' ⟨a9, rfl, j1, tN⟩
    obtain ⟨p9, k9, rfl, -⟩ := tN.shape
    exact ⟨_, rfl, ⟨g2, g4, g5, (fun _ => gk), nopm n8, v0, v1, v3, v4, (fun _ => ⟨bX.trans (j1.mono bX.size), t2.keep j1, Y.diff j1 tN⟩), nopm n8⟩⟩
   ·intro d u wx h0 hdp hF
    obtain ⟨g2, g4, g5, g6, g8, v0, v1, v3, v4, fP, fC⟩ := hF
    have n8 : d 8 = false := by cases h : d 8; rfl; have := (g8 h).2.2.2.2.2.2.2; rw [show d 7 = false from h0] at this; cases this
    refine Wpv.env fun ρ hin hout hcon hfun => ?_
    clear hin hout
    obtain ⟨bX, t2, Y⟩ := id (fP n8)
    rw [show d 7 = false from h0] at Y
    have j1 : Below wx.heap.size wx (wx.alloc (.cells #[.slice none 0 0] 39)) := balloc (Nat.le_refl _) (Below.refl _ _) _
    refine Wpv.value (v := .pointer (some ⟨wx.heap.size, 0, none⟩)) (w' := wx.alloc (.cells #[.slice none 0 0] 39)) (by clear g2 g4 g5 g6 g8 v0 v1 v3 v4 fP fC Y t2 bX j1; go_simp) ⟨g2, g4, g5, g6, nopm n8, v0, v1, v3, v4, (fun _ => ⟨bX.trans (j1.mono bX.size), t2.keep j1, Y.box⟩), nopm n8⟩
   ·intro d u wx h0 hdp hF
    obtain ⟨g2, g4, g5, g6, g8, v0, v1, v3, v4, fP, fC⟩ := hF
    have n8 : d 8 = false := h0
    have gk : d 0 = true ∧ d 1 = true ∧ d 2 = true ∧ d 3 = true ∧ d 4 = true ∧ d 5 = true ∧ d 6 = true ∧ d 7 = true := ⟨(g6 (hdp.get (j := 6) (by kernel_rfl))).1, (g6 (hdp.get (j := 6) (by kernel_rfl))).2.1, (g6 (hdp.get (j := 6) (by kernel_rfl))).2.2.1, (g6 (hdp.get (j := 6) (by kernel_rfl))).2.2.2.1, (g6 (hdp.get (j := 6) (by kernel_rfl))).2.2.2.2.1, (g6 (hdp.get (j := 6) (by kernel_rfl))).2.2.2.2.2, hdp.get (j := 6) (by kernel_rfl), hdp.get (j := 7) (by kernel_rfl)⟩
    refine Wpv.env fun ρ hin hout hcon hfun => ?_
    have Ea := hin 9 (by kernel_rfl)
    have Eb := hin 17 (by kernel_rfl)
    clear hin hout
    obtain ⟨bX, t2, Y⟩ := id (fP n8)
    have D6 : d 6 = true := hdp.get (j := 6) (by kernel_rfl)
    have D7 : d 7 = true := hdp.get (j := 7) (by kernel_rfl)
    obtain ⟨gB, zB, aB, kB, e6, e16, c6, r6, lt6⟩ := Y.pre D6 D7
    have y1 := Ea.trans e6
    have y2 := Eb.trans e16
    have fin := Y.store D6 D7 e6 e16
    refine Wpv.skip (w' := wx.setCell ⟨gB, 0, none⟩ (.slice aB (lessD x y n).length kB)) (by clear fin Y t2 bX e6 e16 Ea Eb g2 g4 g5 g6 g8 v0 v1 v3 v4 fP fC; go_simp) ?_
    exact ⟨g2, g4, g5, g6, (fun _ => gk), v0, v1, v3, v4, (fun h => (by cases h)), (fun _ => fin)⟩
  ·intro d u wx hall hF
   obtain ⟨g2, g4, g5, g6, g8, v0, v1, v3, v4, fP, fC⟩ := hF
   have fD := fC (hall 8 (by decide))
   clear g2 g4 g5 g6 g8 v0 v1 v3 v4 fP fC
   refine hK _ _ (Met.intro (hJ _ _ ?_))
   simp only [setF, List.foldl_cons, List.foldl_nil, Act.put, List.setIfInBounds_toArray, List.set_cons_zero, List.set_cons_succ]
   repeat apply Exists.intro
   exact ⟨fD, rfl⟩
 obtain ⟨g6, a6, k6, l6, h6, rfl, bc, y1, y2, y4, T6, x1, x2, x4⟩ := hcut
 have zc := bc.size
 have XC := XX.out.trans (Ext.of_below (Q := Q) bc)
 clear Hx Hy
 go_wp2_with fail
 refine name_call fun w3 hw3 => ?_
 have e3 : Below wc.heap.size wc w3 := by rw [hw3]; (repeat (with_reducible first | exact bR _ _ | assumption | refine bD ?_ | refine bN ?_ _ | refine bA ?_ _ | refine bS ?_ _))
 clear hw3
 have z3 := e3.size
 have bc3 : Below w1.drew.heap.size w1.drew w3 := bc.trans (e3.mono zc)
 refine (bits_spec base g t Q A (fun k => l6 ≤ k ∧ k < h6) true _ (lessD x y n) (n + 1) w3 (MM.out.below bc3) (by omega) (T6.keep e3 x2).toG (fun k q => ⟨by omega, fun r => by have := LQ.out k r; omega⟩) (KIn.mrg (KIn.mrg ix)) nD.out (by omega) i0 i1 nh nc).mono ?_
 rintro e w4 ⟨u4, Q4, A4, rfl, M4, LS, X4, E4⟩
 obtain ⟨pb, kb, rfl, lb, mb⟩ := LS.shape
 have hlen := bitsK_len t (lessD x y n) (n + 1)
 obtain ⟨bb, ob, ue, rfl, lb1, lb2, cB, tB⟩ := LS.at (j := n) (by rw [hlen]; omega)
 have hgd : (bitsK t (lessD x y n) (n + 1)).2[n]'(by rw [hlen]; omega) = (bitsK t (lessD x y n) (n + 1)).2.getD n [] := by rw [List.getD_eq_getElem?_getD, List.getElem?_eq_getElem]; rfl
 rw [hgd] at tB
 have hmem : (bitsK t (lessD x y n) (n + 1)).2.getD n [] ∈ (bitsK t (lessD x y n) (n + 1)).2 := getD_mem (by rw [hlen]; omega)
 obtain ⟨Bn, hBn⟩ : ∃ Bn, Bn = (bitsK t (lessD x y n) (n + 1)).2.getD n [] := ⟨_, rfl⟩
 rw [← hBn] at tB hmem
 have HBn := Lib.hid hBn
 have iB := bitsK_kin t (lessD x y n) (n + 1) Bn hmem
 have nB := bitsK_one t (lessD x y n) (n + 1) Bn hmem
 have nB1 : Hid (Bn.length ≤ 1048576) := Lib.hid (by omega)
 clear hBn hgd LS hmem nB
 obtain ⟨ae, ke, rfl, le, me⟩ := tB.shape
 rw [hlen]
 rw [hlen] at lb
 clear hlen
 have Xc3 := (Ext.of_below (Q := Q) bc3).trans X4
 have XA := XX.out.trans Xc3
 obtain ⟨cR2, fR2, nR2⟩ := K1.out _ _ Xc3
 have z4 := X4.size
 have lR2 : w.heap.size + 1 + 1 < w4.heap.size := World.block_lt_of_cell? _ _ cR2
 have L2 := Lib.hid M4.lim
 have hA : ∀ k, A4 k → A k ∨ Gx k ∨ w1.drew.heap.size ≤ k := fun k q => by
  rcases E4 k q with r | r | r
  ·exact .inl r
  ·exact .inr (.inr (by omega))
  ·exact .inr (.inr (by omega))
 have na : ¬ A4 (w.heap.size + 1 + 1) := fun q => by
  rcases hA _ q with r | r | r
  ·have := (EL.out _ r).1; omega
  ·have := (HG.out _ r).1; omega
  ·omega
 clear K0 K1 MM XX X4 bc bc3 T6 y4 XC Xc3 e3 E4
 go_wp2_with fail
 generalize hd2 : w4.drew = wd2
 have ed2 : Below w4.heap.size w4 wd2 := by rw [← hd2]; exact (Below.refl _ _).drew
 have zd2 := ed2.size
 have cBX := cell_keep ed2 cB
 have tBX := tB.keep ed2 (by omega)
 have cRX := cell_keep ed2 cR2
 have fRX : wd2.frozen? ⟨w.heap.size + 1 + 1, 0, none⟩ = false := (ed2.frozen (p := ⟨w.heap.size + 1 + 1, 0, none⟩) lR2).trans fR2
 have lRX : w.heap.size + 1 + 1 < wd2.heap.size := by omega
 have XD : Ext Q4 Q4 w4 wd2 := Ext.of_below ed2
 have X3 := XA.trans XD
 have B3 := Lib.hid (M4.below ed2)
 have L3 : Hid (∀ k, Q4 k → k < wd2.heap.size) := Lib.hid fun k q => by have := L2.out k q; omega
 clear cB tB cR2 fR2 XA XD ed2 M4 L2
 subst hd2
 go_cut [28] (fun s28 wx => CutQ w4.drew (w.heap.size + 1 + 1) (mrg 2147483646 (constOf 1) Bn) wx)
 case first =>
  rename_i J K' hJ hK
  refine wp_region_drawn [23, 24, 25, 26, 27, 28] (fun d u wx => (d 3 = true → d 1 = true ∧ d 2 = true) ∧ (d 4 = true → d 1 = true ∧ d 2 = true ∧ d 3 = true) ∧ (d 5 = true → d 0 = true ∧ d 1 = true ∧ d 2 = true ∧ d 3 = true ∧ d 4 = true) ∧ (d 6 = true → d 0 = true ∧ d 1 = true ∧ d 2 = true ∧ d 3 = true ∧ d 4 = true ∧ d 5 = true) ∧ (d 1 = true → u 24 = .slice (some ⟨bb, ob, none⟩) (n + 1) kb) ∧ (d 2 = true → u 25 = .int .i64 n) ∧ (d 3 = true → u 26 = .pointer (some ⟨bb, ob + n, none⟩)) ∧ (d 4 = true → u 27 = .agg #[.slice ae Bn.length ke]) ∧ (d 6 = false → Below w4.drew.heap.size w4.drew wx ∧ TV w4.drew (d 0) (u 23) (constOf 1) wx ∧ TV w4.drew (d 5) (u 28) (mrg 2147483646 (constOf 1) Bn) wx) ∧ (d 6 = true → CutQ w4.drew (w.heap.size + 1 + 1) (mrg 2147483646 (constOf 1) Bn) wx)) (by kernel_rfl) (by kernel_rfl) (by kernel_rfl) ?_ ?_ ?_
  ·intro u; exact ⟨fun h => (by cases h), fun h => (by cases h), fun h => (by cases h), fun h => (by cases h), fun h => (by cases h), fun h => (by cases h), fun h => (by cases h), fun h => (by cases h), fun _ => ⟨Below.refl _ _, TV.none, TV.none⟩, fun h => (by cases h)⟩
  ·refine ⟨?_, ?_, ?_, ?_, ?_, ?_, ?_, trivial⟩
   ·intro d u wx h0 hdp hF
    obtain ⟨g3, g4, g5, g6, v1, v2, v3, v4, fP, fC⟩ := hF
    have n5 : d 5 = false := by cases h : d 5; rfl; have := (g5 h).1; rw [show d 0 = false from h0] at this; cases this
    have n6 : d 6 = false := by cases h : d 6; rfl; have := (g6 h).1; rw [show d 0 = false from h0] at this; cases this
    refine Wpv.env fun ρ hin hout hcon hfun => ?_
    clear hin hout
    obtain ⟨bX, t0, t5⟩ := id (fP n6)
    refine Wpv.enter (f := 52) (args := #[.int .i64 1]) (w' := wx) (by clear g3 g4 g5 g6 v1 v2 v3 v4 fP fC t0 t5 bX; simp only [execOp]; first | (rw [hcon]; go_simp) | go_simp) (l2const_any 1 wx (by omega) (by omega)) ?_
    rintro e' w' ⟨a9, rfl, j1, tN⟩
    obtain ⟨p9, k9, rfl, -⟩ := tN.shape
    exact ⟨_, rfl, ⟨g3, g4, nopm n5, nopm n6, v1, v2, v3, v4, (fun _ => ⟨bX.trans (j1.mono bX.size), TV.new bX.size tN, t5.keep j1⟩), nopm n6⟩⟩
   ·intro d u wx h0 hdp hF
    obtain ⟨g3, g4, g5, g6, v1, v2, v3, v4, fP, fC⟩ := hF
    have n3 : d 3 = false := by cases h : d 3; rfl; have := (g3 h).1; rw [show d 1 = false from h0] at this; cases this
    have n4 : d 4 = false := by cases h : d 4; rfl; have := (g4 h).1; rw [show d 1 = false from h0] at this; cases this
    have n5 : d 5 = false := by cases h : d 5; rfl; have := (g5 h).2.1; rw [show d 1 = false from h0] at this; cases this
    have n6 : d 6 = false := by cases h : d 6; rfl; have := (g6 h).2.1; rw [show d 1 = false from h0] at this; cases this
    refine Wpv.env fun ρ hin hout hcon hfun => ?_
    have Ea : ρ (.tmp 10) = .slice (some ⟨bb, ob, none⟩) (n + 1) kb := (hout 10 (by kernel_rfl)).trans (by kernel_rfl)
    clear hin hout
    exact Wpv.value (v := .slice (some ⟨bb, ob, none⟩) (n + 1) kb) (w' := wx) (by clear g3 g4 g5 g6 v1 v2 v3 v4 fP fC; simp only [execOp]; rw [Ea]; go_simp) ⟨nopm n3, nopm n4, nopm n5, nopm n6, (fun _ => rfl), v2, nopm n3, nopm n4, fP, nopm n6⟩
   ·intro d u wx h0 hdp hF
    obtain ⟨g3, g4, g5, g6, v1, v2, v3, v4, fP, fC⟩ := hF
    have n3 : d 3 = false := by cases h : d 3; rfl; have := (g3 h).2; rw [show d 2 = false from h0] at this; cases this
    have n4 : d 4 = false := by cases h : d 4; rfl; have := (g4 h).2.1; rw [show d 2 = false from h0] at this; cases this
    have n5 : d 5 = false := by cases h : d 5; rfl; have := (g5 h).2.2.1; rw [show d 2 = false from h0] at this; cases this
    have n6 : d 6 = false := by cases h : d 6; rfl; have := (g6 h).2.2.1; rw [show d 2 = false from h0] at this; cases this
    refine Wpv.env fun ρ hin hout hcon hfun => ?_
    have Ea : ρ (.tmp 3) = .int .i64 n := (hout 3 (by kernel_rfl)).trans (by kernel_rfl)
    clear hin hout
    exact Wpv.value (v := .int .i64 n) (w' := wx) (by clear g3 g4 g5 g6 v1 v2 v3 v4 fP fC; simp only [execOp]; rw [Ea]; go_simp) ⟨nopm n3, nopm n4, nopm n5, nopm n6, v1, (fun _ => rfl), nopm n3, nopm n4, fP, nopm n6⟩
   ·intro d u wx h0 hdp hF
    obtain ⟨g3, g4, g5, g6, v1, v2, v3, v4, fP, fC⟩ := hF
    have n4 : d 4 = false := by cases h : d 4; rfl; have := (g4 h).2.2; rw [show d 3 = false from h0] at this; cases this
    have n5 : d 5 = false := by cases h : d 5; rfl; have := (g5 h).2.2.2.1; rw [show d 3 = false from h0] at this; cases this
    have n6 : d 6 = false := by cases h : d 6; rfl; have := (g6 h).2.2.2.1; rw [show d 3 = false from h0] at this; cases this
    have gk : d 1 = true ∧ d 2 = true := ⟨hdp.get (j := 1) (by kernel_rfl), hdp.get (j := 2) (by kernel_rfl)⟩
    refine Wpv.env fun ρ hin hout hcon hfun => ?_
    have Ea := (hin 24 (by kernel_rfl)).trans (v1 (hdp.get (j := 1) (by kernel_rfl)))
    have Eb := (hin 25 (by kernel_rfl)).trans (v2 (hdp.get (j := 2) (by kernel_rfl)))
    clear hin hout
    refine Wpv.value (v := .pointer (some ⟨bb, ob + n, none⟩)) (w' := wx) ?_ ⟨(fun _ => gk), nopm n4, nopm n5, nopm n6, v1, v2, (fun _ => rfl), nopm n4, fP, nopm n6⟩
    clear g3 g4 g5 g6 v1 v2 v3 v4 fP fC
    simp only [execOp]; rw [Ea, Eb]; first | (go_simp; done) | (go_simp; intro hh; exact absurd hh (by omega))
   ·intro d u wx h0 hdp hF
    obtain ⟨g3, g4, g5, g6, v1, v2, v3, v4, fP, fC⟩ := hF
    have n5 : d 5 = false := by cases h : d 5; rfl; have := (g5 h).2.2.2.2; rw [show d 4 = false from h0] at this; cases this
    have n6 : d 6 = false := by cases h : d 6; rfl; have := (g6 h).2.2.2.2.1; rw [show d 4 = false from h0] at this; cases this
    have gk : d 1 = true ∧ d 2 = true ∧ d 3 = true := ⟨(g3 (hdp.get (j := 3) (by kernel_rfl))).1, (g3 (hdp.get (j := 3) (by kernel_rfl))).2, hdp.get (j := 3) (by kernel_rfl)⟩
    refine Wpv.env fun ρ hin hout hcon hfun => ?_
    have Ea := (hin 26 (by kernel_rfl)).trans (v3 (hdp.get (j := 3) (by kernel_rfl)))
    clear hin hout
    obtain ⟨bX, -⟩ := id (fP n6)
    have c0 := cell_keep bX cBX
    refine Wpv.value (v := .agg #[.slice ae Bn.length ke]) (w' := wx) ?_ ⟨g3, (fun _ => gk), nopm n5, nopm n6, v1, v2, v3, (fun _ => rfl), fP, nopm n6⟩
    clear g3 g4 g5 g6 v1 v2 v3 v4 fP fC bX
    simp only [execOp]; rw [Ea]; go_simp
   ·intro d u wx h0 hdp hF
    obtain ⟨g3, g4, g5, g6, v1, v2, v3, v4, fP, fC⟩ := hF
    have n6 : d 6 = false := by cases h : d 6; rfl; have := (g6 h).2.2.2.2.2; rw [show d 5 = false from h0] at this; cases this
    have gk : d 0 = true ∧ d 1 = true ∧ d 2 = true ∧ d 3 = true ∧ d 4 = true := ⟨hdp.get (j := 0) (by kernel_rfl), (g4 (hdp.get (j := 4) (by kernel_rfl))).1, (g4 (hdp.get (j := 4) (by kernel_rfl))).2.1, (g4 (hdp.get (j := 4) (by kernel_rfl))).2.2, hdp.get (j := 4) (by kernel_rfl)⟩
    refine Wpv.env fun ρ hin hout hcon hfun => ?_
    have E0 := hin 23 (by kernel_rfl)
    have E1 := (hin 27 (by kernel_rfl)).trans (v4 (hdp.get (j := 4) (by kernel_rfl)))
    clear hin hout
    obtain ⟨bX, t0, t5⟩ := id (fP n6)
    obtain ⟨a0, k0, e0, T0⟩ := t0 (hdp.get (j := 0) (by kernel_rfl))
    have y0 := E0.trans e0
    clear E0 e0
    refine Wpv.enter (f := 51) (args := #[.agg #[.slice a0 (constOf 1).length k0], .agg #[.slice ae Bn.length ke]]) (w' := wx) (by clear g3 g4 g5 g6 v1 v2 v3 v4 fP fC T0 t0 t5 bX; simp only [execOp]; first | (rw [hcon]; go_simp) | go_simp) (l2sub_wide _ _ _ _ (constOf 1) _ _ _ _ Bn wx T0 (Nat.le_refl _) (tBX.keep bX (by omega)) (by have := bX.size; omega) KIn.const1 iB (Nat.le_trans (constOf_len _) (by omega)) nB1.out) ?_
    rintro e' w' ⟨a9, rfl, j1, tN⟩
    obtain ⟨p9, k9, rfl, -⟩ := tN.shape
    exact ⟨_, rfl, ⟨g3, g4, (fun _ => gk), nopm n6, v1, v2, v3, v4, (fun _ => ⟨bX.trans (j1.mono bX.size), t0.keep j1, TV.new bX.size tN⟩), nopm n6⟩⟩
   ·intro d u wx h0 hdp hF
    obtain ⟨g3, g4, g5, g6, v1, v2, v3, v4, fP, fC⟩ := hF
    have n6 : d 6 = false := h0
    have gk : d 0 = true ∧ d 1 = true ∧ d 2 = true ∧ d 3 = true ∧ d 4 = true ∧ d 5 = true := ⟨(g5 (hdp.get (j := 5) (by kernel_rfl))).1, (g5 (hdp.get (j := 5) (by kernel_rfl))).2.1, (g5 (hdp.get (j := 5) (by kernel_rfl))).2.2.1, (g5 (hdp.get (j := 5) (by kernel_rfl))).2.2.2.1, (g5 (hdp.get (j := 5) (by kernel_rfl))).2.2.2.2, hdp.get (j := 5) (by kernel_rfl)⟩
    refine Wpv.env fun ρ hin hout hcon hfun => ?_
    have Ea : ρ (.tmp 8) = .pointer (some ⟨w.heap.size + 1 + 1, 0, none⟩) := (hout 8 (by kernel_rfl)).trans (by kernel_rfl)
    have Eb := hin 28 (by kernel_rfl)
    clear hin hout
    obtain ⟨bX, t0, t5⟩ := id (fP n6)
    obtain ⟨a0, k0, e0, T0⟩ := t5 (hdp.get (j := 5) (by kernel_rfl))
    have y0 := Eb.trans e0
    clear Eb e0
    have cR := cell_keep bX cRX
    have fR := (bX.frozen (p := ⟨w.heap.size + 1 + 1, 0, none⟩) lRX).trans fRX
    refine Wpv.skip (w' := wx.setCell ⟨w.heap.size + 1 + 1, 0, none⟩ (.slice a0 (mrg 2147483646 (constOf 1) Bn).length k0)) (by clear g3 g4 g5 g6 v1 v2 v3 v4 fP fC T0 t0 t5 bX; go_simp) ?_
    exact ⟨g3, g4, g5, (fun _ => gk), v1, v2, v3, v4, (fun h => (by cases h)), (fun _ => ⟨wx, a0, k0, rfl, bX, T0⟩)⟩
  ·intro d u wx hall hF
   obtain ⟨g3, g4, g5, g6, v1, v2, v3, v4, fP, fC⟩ := hF
   have fD := fC (hall 6 (by decide))
   clear g3 g4 g5 g6 v1 v2 v3 v4 fP fC
   refine hK _ _ (Met.intro (hJ _ _ ?_))
   simp only [setF, List.foldl_cons, List.foldl_nil, Act.put, List.setIfInBounds_toArray, List.set_cons_zero, List.set_cons_succ]
   repeat apply Exists.intro
   exact ⟨fD, rfl⟩
 obtain ⟨wq, aq, kq, rfl, bq, tq⟩ := hcut
 have cq := cell_keep bq cRX
 have X5 := X3.trans (Ext.of_below (Q := Q4) bq)
 have zq := bq.size
 have N4 : NewL w4.drew.heap.size Q4 wq (.slice aq (mrg 2147483646 (constOf 1) Bn).length kq) (mrg 2147483646 (constOf 1) Bn) := NewL.made tq (Nat.le_refl _) (fun k q => L3.out k q)
 clear cBX tBX cRX fRX X3
 go_wp2_with fail
 exact bodyPost_ret (v := .agg #[.slice aq (mrg 2147483646 (constOf 1) Bn).length kq]) (by simp [results, Tryz.results22, go_sem, cq]) rfl (RetM.of rfl (by unfold lessZ; rw [HBn.out]) ((B3.out.below bq).boxed nR2 na) (lin_store (lo := w4.drew.heap.size) N4 (by omega) (by omega)) (ext_boxed X5 (by omega)) (fun k q => by rcases hA k q with r | r | r; exact .inl r; exact .inr (.inl r); exact .inr (.inr (by omega))))
end Go.Proofs.YtklcgclaeafoeaaGreat.L
