/- The builder's zero. -/
import Derived.Test.YtghjcedhoeoiiaaZeroR
import Derived.Test.YtghjcedhoeoiiaaB11
import Derived.Deep.DeepCutAuto
namespace Go.Proofs.Ytghjcedhoeoiiaa.L
open Go.RowKit Go.Proofs.Ytghjcedhoeoiiaa.S
set_option linter.unusedVariables false
set_option linter.unusedSimpArgs false

set_option maxRecDepth 100000 in
set_option maxHeartbeats 6400000 in
theorem zeroB_any (base g : Nat) (gv : Gv) (s : SysC) (b : Bd) (Q : Nat → Prop) (ox : Bool) (vx : Value) (x : List T) (w : World) (B : Bld base g gv s b Q w) (tx : OutL ox Q w vx x)
    (nx : x.length ≤ 1048576) (i0 : 0 ≤ s.ins) (i1 : s.ins ≤ 100) (nh : s.hints.length ≤ 1048576) (nc : s.cons.length ≤ 1048576) (nb : b.n + 4 ≤ 1000000) :
    Calls Try.prog 42 #[.pointer (some ⟨g, 0, none⟩), .agg #[vx]] w (RetV base g gv s (zeroB s b x) (zeroBZ s b x) Q w) := by
  obtain ⟨ax, kx, rfl, lx, mx⟩ := tx.shape
  have LQ := Lib.hid B.lim
  have NQ : Hid (∀ i, w.heap.size ≤ i → ¬ Q i) := Lib.hid fun i hi q => by have := LQ.out i q; omega
  go_enter Try.func42, Try.ntmps42
  go_wp2_with fail
  refine name_call fun w1 hw1 => ?_
  have e1 : Below w.heap.size w w1 := by rw [hw1]; (repeat (with_reducible first | exact bR _ _ | assumption | refine bD ?_ | refine bN ?_ _ | refine bA ?_ _ | refine bS ?_ _))
  have z1 : w.heap.size + 2 ≤ w1.heap.size := by rw [hw1]; simp
  have cx1 : w1.cell? ⟨w.heap.size, 0, none⟩ = some (.slice ax x.length kx) := by rw [hw1]; first | (simp; done) | go_simp
  have cR1 : w1.cell? ⟨w.heap.size + 1, 0, none⟩ = some (.slice none 0 0) := by rw [hw1]; first | (simp; done) | go_simp
  have fR1 : w1.frozen? ⟨w.heap.size + 1, 0, none⟩ = false := by rw [hw1]; first | (simp; done) | go_simp
  clear hw1
  have X1 : Ext Q Q w w1 := .of_below e1
  refine (hintB_any base g gv s b Q 2 0 ox true _ _ x [] w1 (B.below e1) (tx.ext X1) (OutL.nil _ _ _) nx (Nat.zero_le _) i0 i1 nh (by omega) (by unfold Fits; omega) (by unfold Fits; omega)).mono ?_
  rintro e w2 ⟨u2, Q2, rfl, B2, N2, X2⟩
  obtain ⟨p2, k2, rfl, l2, b2⟩ := N2.shape
  have z2 := X2.size
  have cx2 := (X2.cell (b := w.heap.size) (by omega) (NQ.out _ (Nat.le_refl _)) 0).trans cx1
  have cR2 := (X2.cell (b := w.heap.size + 1) (by omega) (NQ.out _ (by omega)) 0).trans cR1
  have fR2 := (X2.frozen (b := w.heap.size + 1) (by omega) (NQ.out _ (by omega)) 0).trans fR1
  have nx2 := X2.not (b := w.heap.size) (by omega) (NQ.out _ (Nat.le_refl _))
  have nR2 := X2.not (b := w.heap.size + 1) (by omega) (NQ.out _ (by omega))
  have X12 := X1.trans X2
  have lx2 : w.heap.size < w2.heap.size := by omega
  clear cx1 cR1 fR1 X1 X2
  go_wp2_with fail
  refine name_wp fun w3 hw3 => ?_
  have e3 : Below w2.heap.size w2 w3 := by rw [hw3]; (repeat (with_reducible first | exact bR _ _ | assumption | refine bD ?_ | refine bN ?_ _ | refine bA ?_ _ | refine bS ?_ _))
  have z3 : w2.heap.size + 1 ≤ w3.heap.size := by rw [hw3]; simp
  have cI3 : w3.cell? ⟨w2.heap.size, 0, none⟩ = some (.slice p2 (bVar s b).length k2) := by rw [hw3]; first | (simp; done) | go_simp
  clear hw3
  generalize hd : w3.drew = wd
  have ed : Below w3.heap.size w3 wd := by rw [← hd]; exact (Below.refl _ _).drew
  have zd := ed.size
  have e2d : Below w2.heap.size w2 wd := e3.trans (ed.mono (by omega))
  have X2d : Ext Q2 Q2 w2 wd := Ext.of_below e2d
  have cx := cell_keep e2d cx2
  have cR := cell_keep e2d cR2
  have fR := (e2d.frozen (p := ⟨w.heap.size + 1, 0, none⟩) (show w.heap.size + 1 < w2.heap.size by omega)).trans fR2
  have cI := cell_keep ed cI3
  have L2 := Lib.hid B2.lim
  have nI : ¬ Q2 w2.heap.size := fun q => by have := L2.out _ q; omega
  have BD := B2.below e2d
  have X0d := X12.trans X2d
  have rx := tx.ext X0d
  have rI := N2.out.ext X2d
  have nV : (bVar s b).length ≤ 1048576 := by have := varOf_len (varsN s + b.hs.length); unfold bVar; omega
  have K0 : Hid (∀ Q' w', Ext Q2 Q' wd w' → w'.cell? ⟨w.heap.size, 0, none⟩ = some (.slice ax x.length kx) ∧ w'.cell? ⟨w2.heap.size, 0, none⟩ = some (.slice p2 (bVar s b).length k2) ∧ w'.cell? ⟨w.heap.size + 1, 0, none⟩ = some (.slice none 0 0) ∧ w'.frozen? ⟨w.heap.size + 1, 0, none⟩ = false ∧ ¬ Q' (w.heap.size + 1)) :=
    Lib.hid fun Q' w' h => ⟨(h.cell (by omega) nx2 0).trans cx, (h.cell (by omega) nI 0).trans cI, (h.cell (by omega) nR2 0).trans cR, (h.frozen (by omega) nR2 0).trans fR, h.not (by omega) nR2⟩
  clear e1 ed e3 cx2 cR2 fR2 cI3 cx cR fR cI B X12 X2d tx N2 B2 e2d
  have HX0 := Lib.hid X0d
  have Hx := Lib.hid rx
  have HI := Lib.hid rI
  clear X0d rx rI
  subst hd
  go_cut [6] (fun s6 wx => CutZ base g gv s (mulB s (bHint s b ⟨2, x, [], 0⟩) x (bVar s b)) (zeroBZ s b x) Q2 w3.drew s6 wx)
  case first =>
    rename_i J K' hJ hK
    refine wp_region_drawn [6, 11, 12, 13, 14, 15, 16] (fun d u wx => (d 4 = true → d 0 = true ∧ d 2 = true ∧ d 3 = true) ∧ (d 7 = true → d 4 = true ∧ d 5 = true ∧ d 6 = true) ∧ (d 1 = true → u 12 = .pointer (some ⟨g, 0, none⟩)) ∧ (d 2 = true → u 13 = .agg #[.slice ax x.length kx]) ∧ (d 3 = true → u 14 = .agg #[.slice p2 (bVar s b).length k2]) ∧
      (d 7 = false → ZR base g gv s (bHint s b ⟨2, x, [], 0⟩) (mulB s (bHint s b ⟨2, x, [], 0⟩) x (bVar s b)) (constOf 1) (bVar s (bHint s b ⟨2, x, [], 0⟩)) (zeroBZ s b x) Q2 w3.drew (d 0) (d 4) (d 5) (d 6) false (u 11) (u 15) (u 16) (u 6) wx) ∧
      (d 7 = true → CutZ base g gv s (mulB s (bHint s b ⟨2, x, [], 0⟩) x (bVar s b)) (zeroBZ s b x) Q2 w3.drew (u 6) wx)) (by kernel_rfl) (by kernel_rfl) (by kernel_rfl) ?_ ?_ ?_
    · intro u; exact ⟨fun h => (by cases h), fun h => (by cases h), fun h => (by cases h), fun h => (by cases h), fun h => (by cases h), fun _ => ZR.start BD, fun h => (by cases h)⟩
    · refine ⟨?_, ?_, ?_, ?_, ?_, ?_, ?_, ?_, trivial⟩
      · intro d u wx h0 hdp hF
        obtain ⟨g4, g7, f1, f2, f3, fZ, fC⟩ := hF
        have n4 : d 4 = false := by cases h : d 4; rfl; have := (g4 h).1; rw [show d 0 = false from h0] at this; cases this
        have n7 : d 7 = false := by cases h : d 7; rfl; have := (g7 h).1; rw [n4] at this; cases this
        refine Wpv.env fun ρ hin hout hcon hfun => ?_
        clear hin hout
        have Z := fZ n7
        refine Wpv.enter (f := 64) (args := #[.int .i64 1]) (w' := wx) (by clear Z fZ f1 f2 f3 fC; simp only [execOp]; first | (rw [hcon]; go_simp) | go_simp) (const_impl 1 wx (by omega) (by omega)) ?_
        rintro e' w' ⟨a1, rfl, j1, t1⟩
        obtain ⟨p, k, rfl, -⟩ := t1.shape
        exact ⟨_, rfl, ⟨nope n4, nope n7, f1, f2, f3, fun _ => Z.const j1 t1, nope n7⟩⟩
      · intro d u wx h0 hdp hF
        obtain ⟨g4, g7, f1, f2, f3, fZ, fC⟩ := hF
        refine Wpv.env fun ρ hin hout hcon hfun => ?_
        have E0 : ρ (.tmp 0) = .pointer (some ⟨g, 0, none⟩) := (hout 0 (by kernel_rfl)).trans (by kernel_rfl)
        clear hin hout
        refine Wpv.value (v := .pointer (some ⟨g, 0, none⟩)) (w' := wx) (by clear fZ f1 f2 f3 fC; simp only [execOp]; rw [E0]; go_simp) ⟨g4, g7, fun _ => rfl, f2, f3, fZ, fC⟩
      · intro d u wx h0 hdp hF
        obtain ⟨g4, g7, f1, f2, f3, fZ, fC⟩ := hF
        have n4 : d 4 = false := by cases h : d 4; rfl; have := (g4 h).2.1; rw [show d 2 = false from h0] at this; cases this
        have n7 : d 7 = false := by cases h : d 7; rfl; have := (g7 h).1; rw [n4] at this; cases this
        refine Wpv.env fun ρ hin hout hcon hfun => ?_
        have E3 : ρ (.tmp 3) = .pointer (some ⟨w.heap.size, 0, none⟩) := (hout 3 (by kernel_rfl)).trans (by kernel_rfl)
        clear hin hout
        obtain ⟨-, -, Q', ex, -⟩ := id (fZ n7)
        have c0 := (K0.out _ _ ex).1
        clear ex
        refine Wpv.value (v := .agg #[.slice ax x.length kx]) (w' := wx) ?_ ⟨nope n4, nope n7, f1, fun _ => rfl, f3, fZ, nope n7⟩
        clear fZ f1 f2 f3 fC
        simp only [execOp]; rw [E3]; go_simp
      · intro d u wx h0 hdp hF
        obtain ⟨g4, g7, f1, f2, f3, fZ, fC⟩ := hF
        have n4 : d 4 = false := by cases h : d 4; rfl; have := (g4 h).2.2; rw [show d 3 = false from h0] at this; cases this
        have n7 : d 7 = false := by cases h : d 7; rfl; have := (g7 h).1; rw [n4] at this; cases this
        refine Wpv.env fun ρ hin hout hcon hfun => ?_
        have E5 : ρ (.tmp 5) = .pointer (some ⟨w2.heap.size, 0, none⟩) := (hout 5 (by kernel_rfl)).trans (by kernel_rfl)
        clear hin hout
        obtain ⟨-, -, Q', ex, -⟩ := id (fZ n7)
        have c0 := (K0.out _ _ ex).2.1
        clear ex
        refine Wpv.value (v := .agg #[.slice p2 (bVar s b).length k2]) (w' := wx) ?_ ⟨nope n4, nope n7, f1, f2, fun _ => rfl, fZ, nope n7⟩
        clear fZ f1 f2 f3 fC
        simp only [execOp]; rw [E5]; go_simp
      · intro d u wx h0 hdp hF
        obtain ⟨g4, g7, f1, f2, f3, fZ, fC⟩ := hF
        have n7 : d 7 = false := by cases h : d 7; rfl; have := (g7 h).1; rw [show d 4 = false from h0] at this; cases this
        refine Wpv.env fun ρ hin hout hcon hfun => ?_
        have E12 := (hin 12 (by kernel_rfl)).trans (f1 (hdp.get (j := 1) (by kernel_rfl)))
        have E13 := (hin 13 (by kernel_rfl)).trans (f2 (hdp.get (j := 2) (by kernel_rfl)))
        have E14 := (hin 14 (by kernel_rfl)).trans (f3 (hdp.get (j := 3) (by kernel_rfl)))
        have D0 : d 0 = true := hdp.get (j := 0) (by kernel_rfl)
        have D2 : d 2 = true := hdp.get (j := 2) (by kernel_rfl)
        have D3 : d 3 = true := hdp.get (j := 3) (by kernel_rfl)
        clear hin hout
        obtain ⟨z1, z2, Q', ex, b1, b2, lim, c0, c4, c5, c6⟩ := fZ n7
        refine Wpv.enter (f := 74) (args := #[.pointer (some ⟨g, 0, none⟩), .agg #[.slice ax x.length kx], .agg #[.slice p2 (bVar s b).length k2]]) (w' := wx) (by clear f1 f2 f3 fZ fC g4 g7 c0 c4 c5 c6 b1 b2 ex; go_simp) (productB_any base g gv s (bHint s b ⟨2, x, [], 0⟩) Q' ox true _ _ x (bVar s b) wx (b1 h0) (Hx.out.ext ex) (HI.out.ext ex) nx nV i0 i1 nh nc (by show b.n + 1 + 1 ≤ 1000000; omega)) ?_
        rintro e' w' ⟨u', Qn, rfl, Bn, Nn, Xn⟩
        obtain ⟨p, k, rfl, -⟩ := Nn.shape
        exact ⟨_, rfl, ⟨fun _ => ⟨D0, D2, D3⟩, nope n7, f1, f2, f3, fun _ => ZR.prod z1 z2 ex c0 c6 h0 Bn Nn Xn, nope n7⟩⟩
      · intro d u wx h0 hdp hF
        obtain ⟨g4, g7, f1, f2, f3, fZ, fC⟩ := hF
        have n7 : d 7 = false := by cases h : d 7; rfl; have := (g7 h).2.1; rw [show d 5 = false from h0] at this; cases this
        have D4 : d 4 = true := hdp.get (j := 4) (by kernel_rfl)
        have D0 := (g4 D4).1
        refine Wpv.env fun ρ hin hout hcon hfun => ?_
        have E11 := hin 11 (by kernel_rfl)
        have E15 := hin 15 (by kernel_rfl)
        clear hin hout
        have Z := fZ n7
        obtain ⟨z1, z2, Q', ex, b1, b2, lim, c0, c4, c5, c6⟩ := id Z
        obtain ⟨a1, k1, e1, o1⟩ := c0 D0
        obtain ⟨a2, k2', e2, o2⟩ := c4 D4
        have y1 := E11.trans e1
        have y2 := E15.trans e2
        refine Wpv.enter (f := 63) (args := #[.agg #[.slice a1 (constOf 1).length k1], .agg #[.slice a2 (bVar s (bHint s b ⟨2, x, [], 0⟩)).length k2']]) (w' := wx) (by clear f1 f2 f3 fZ fC g4 g7 c0 c4 c5 c6 b1 b2 ex Z E11 E15 e1 e2 o1 o2; go_simp) (linMinus_any _ _ _ _ (constOf 1) _ _ _ _ (bVar s (bHint s b ⟨2, x, [], 0⟩)) wx (OutL.read o1) (Nat.le_refl _) (OutL.read o2) (Nat.le_refl _)) ?_
        rintro e' w' ⟨a3, rfl, j1, t1⟩
        obtain ⟨p, k, rfl, -⟩ := t1.shape
        exact ⟨_, rfl, ⟨g4, nope n7, f1, f2, f3, fun _ => ZR.diff (F := zeroBZ s b x) Z D4 h0 j1 t1, nope n7⟩⟩
      · intro d u wx h0 hdp hF
        obtain ⟨g4, g7, f1, f2, f3, fZ, fC⟩ := hF
        have n7 : d 7 = false := by cases h : d 7; rfl; have := (g7 h).2.2; rw [show d 6 = false from h0] at this; cases this
        refine Wpv.env fun ρ hin hout hcon hfun => ?_
        clear hin hout
        have Z := fZ n7
        rw [show d 6 = false from h0] at Z
        refine Wpv.value (v := .pointer (some ⟨wx.heap.size, 0, none⟩)) (w' := wx.alloc (.cells #[.slice none 0 0] 38)) (by clear f1 f2 f3 fZ fC g4 g7 Z; go_simp) ⟨g4, nope n7, f1, f2, f3, fun _ => Z.box, nope n7⟩
      · intro d u wx h0 hdp hF
        obtain ⟨g4, g7, f1, f2, f3, fZ, fC⟩ := hF
        have D5 : d 5 = true := hdp.get (j := 5) (by kernel_rfl)
        have D6 : d 6 = true := hdp.get (j := 6) (by kernel_rfl)
        refine Wpv.env fun ρ hin hout hcon hfun => ?_
        have E6 := hin 6 (by kernel_rfl)
        have E16 := hin 16 (by kernel_rfl)
        clear hin hout
        have Z := fZ h0
        have D4 : d 4 = true := Z.1 D5
        obtain ⟨g6, z, a, k, e6, e16, c6, r6, lt6⟩ := Z.pre D5 D6
        have y1 := E6.trans e6
        have y2 := E16.trans e16
        have fin := Z.store D5 D6 e6 e16
        refine Wpv.skip (w' := wx.setCell ⟨g6, 0, none⟩ (.slice a (zeroBZ s b x).length k)) (by clear fin Z f1 f2 f3 fZ fC g4 g7 e6 e16 E6 E16; go_simp) ?_
        exact ⟨g4, fun _ => ⟨D4, D5, D6⟩, f1, f2, f3, fun h => (by cases h), fun _ => fin⟩
    · intro d u wx hall hF
      obtain ⟨g4, g7, f1, f2, f3, fZ, fC⟩ := hF
      have fD := fC (hall 7 (by decide))
      clear g4 g7 f1 f2 f3 fZ fC
      refine hK _ _ (Met.intro (hJ _ _ ?_))
      simp only [setF, List.foldl_cons, List.foldl_nil, Act.put, List.setIfInBounds_toArray, List.set_cons_zero, List.set_cons_succ]
      repeat apply Exists.intro
      exact ⟨fD, rfl⟩
  obtain ⟨Q4, g6, a4, k4, l4, h4, rfl, X4, B4, y1, y2, y3, y4, T4, x1, x2, x3, x4⟩ := hcut
  obtain ⟨cx, cI, cR, fR, nR⟩ := K0.out _ _ X4
  have rx := Hx.out.ext X4
  have XA := HX0.out.trans X4
  have zc := X4.size
  have O4 : OutL true Q4 wc (.slice a4 (zeroBZ s b x).length k4) (zeroBZ s b x) := ⟨l4, h4, fun q h1 h2 => ⟨by omega, x3 q h1 h2⟩, T4⟩
  have nz : (zeroBZ s b x).length ≤ 1048576 := by
    exact Nat.le_trans (lcomb_len 2147483646 (constOf 1) (bVar s (bHint s b ⟨2, x, [], 0⟩))) (by omega)
  have lx4 : w.heap.size < wc.heap.size := by omega
  have lR4 : w.heap.size + 1 < wc.heap.size := by omega
  clear K0 HI Hx HX0 BD
  go_wp2_with fail
  refine name_call fun w5 hw5 => ?_
  have e5 : Below wc.heap.size wc w5 := by rw [hw5]; (repeat (with_reducible first | exact bR _ _ | assumption | refine bD ?_ | refine bN ?_ _ | refine bA ?_ _ | refine bS ?_ _))
  clear hw5
  have z5 := e5.size
  have X5 : Ext Q4 Q4 wc w5 := Ext.of_below e5
  refine (conB_any base g gv s (mulB s (bHint s b ⟨2, x, [], 0⟩) x (bVar s b)) Q4 ox true true _ _ _ x (zeroBZ s b x) [] w5 (B4.below e5) (rx.ext X5) (O4.ext X5) (OutL.nil _ _ _) nx nz (Nat.zero_le _) nc (by show b.n + 1 + 1 + 1 ≤ 1000000; omega)).mono ?_
  rintro e w6 ⟨Q6, rfl, B6, X6⟩
  have z6 := X6.size
  have X46 := X5.trans X6
  have cZ6 := (X46.cell (b := g6) y2 y3 0).trans y4
  have cR6 := (X46.cell (b := w.heap.size + 1) lR4 nR 0).trans cR
  have fR6 := (X46.frozen (b := w.heap.size + 1) lR4 nR 0).trans fR
  have nR6 := X46.not lR4 nR
  have T6 := T4.agree (show Same l4 h4 wc w6 from fun q h1 h2 => X46.only.block q (by omega) (x3 q h1 h2))
  have N6 : ∀ q, l4 ≤ q → q < h4 → ¬ Q6 q := fun q h1 h2 => X46.not (by omega) (x3 q h1 h2)
  have XF := XA.trans X46
  have lZ6 : g6 < w6.heap.size := by omega
  have lR6 : w.heap.size + 1 < w6.heap.size := by omega
  clear X4 B4 T4 O4 rx X5 X6 X46 e5 y4 cx cI cR fR XA
  go_wp2_with fail
  have T7 := T6.agree (show Same l4 h4 w6 (w6.setCell ⟨w.heap.size + 1, 0, none⟩ (.slice a4 (zeroBZ s b x).length k4)) from same_set (by omega))
  exact bodyPost_ret (v := .agg #[.slice a4 (zeroBZ s b x).length k4]) (by simp [results, Try.results42, go_sem, cR6]) rfl (RetV.of rfl rfl (B6.boxed nR6) ⟨l4, h4, fun q h1 h2 => ⟨by omega, by simp [World.setCell]; omega, N6 q h1 h2⟩, T7⟩ (ext_boxed XF (by omega)))
end Go.Proofs.Ytghjcedhoeoiiaa.L
