/- The builder's less (written by tools/gen/less.py). -/
import Derived.Test.YtcenijdaacbgpaaLessR
import Derived.Test.YtcenijdaacbgpaaBGate
import Derived.Test.YtcenijdaacbgpaaB24
import Derived.Deep.DeepCutAuto
namespace Go.Proofs.Ytcenijdaacbgpaa.L
open Go.RowKit Go.Proofs.Ytcenijdaacbgpaa.S
set_option linter.unusedVariables false
set_option linter.unusedSimpArgs false

set_option maxRecDepth 100000 in
set_option maxHeartbeats 12800000 in
theorem lessB_any (base g : Nat) (gv : Gv) (s : SysC) (b : Bd) (Q : Nat → Prop) (ox : Bool) (vx : Value) (x : List T) (oy : Bool) (vy : Value) (y : List T) (n : Nat) (w : World) (B : Bld base g gv s b Q w) (tx : OutL ox Q w vx x) (ty : OutL oy Q w vy y)
    (hn : n ≤ 29) (i0 : 0 ≤ s.ins) (i1 : s.ins ≤ 100) (nh : s.hints.length ≤ 1048576) (nc : s.cons.length ≤ 1048576) (nb : b.n + 100 ≤ 1000000) :
    Calls Try.prog 37 #[.pointer (some ⟨g, 0, none⟩), .agg #[vx], .agg #[vy], .int .i64 n] w (RetV base g gv s (lessB s b x y n) (lessBZ s b x y n) Q w) := by
  obtain ⟨ax, kx, rfl, lx, mx⟩ := tx.shape
  obtain ⟨ay, ky, rfl, ly, my⟩ := ty.shape
  have LQ := Lib.hid B.lim
  have NQ : Hid (∀ i, w.heap.size ≤ i → ¬ Q i) := Lib.hid fun i hi q => by have := LQ.out i q; omega
  obtain ⟨pw1, pw2⟩ := pow_lt (show n < 30 by omega)
  have wsh : IntKind.i64.wrap ((2 : Int) ^ n) = (2 : Int) ^ n := IntWalk.i64_in _ (by omega)
  have wad : IntKind.i64.wrap ((n : Int) + 1) = (n : Int) + 1 := IntWalk.i64_in _ (by omega)
  go_enter Try.func37, Try.ntmps37
  go_wp2_with fail
  refine name_wp fun w1 hw1 => ?_
  have e1 : Below w.heap.size w w1 := by rw [hw1]; (repeat (with_reducible first | exact bR _ _ | assumption | refine bD ?_ | refine bN ?_ _ | refine bA ?_ _ | refine bS ?_ _))
  have z1 : w.heap.size + 3 ≤ w1.heap.size := by rw [hw1]; simp
  have cx1 : w1.cell? ⟨w.heap.size, 0, none⟩ = some (.slice ax x.length kx) := by rw [hw1]; first | (simp; done) | go_simp
  have cy1 : w1.cell? ⟨w.heap.size + 1, 0, none⟩ = some (.slice ay y.length ky) := by rw [hw1]; first | (simp; done) | go_simp
  have cR1 : w1.cell? ⟨w.heap.size + 1 + 1, 0, none⟩ = some (.slice none 0 0) := by rw [hw1]; first | (simp; done) | go_simp
  have fR1 : w1.frozen? ⟨w.heap.size + 1 + 1, 0, none⟩ = false := by rw [hw1]; first | (simp; done) | go_simp
  clear hw1
  generalize hd : w1.drew = wd
  have ed : Below w1.heap.size w1 wd := by rw [← hd]; exact (Below.refl _ _).drew
  have zd := ed.size
  have e0 : Below w.heap.size w wd := e1.trans (ed.mono (by omega))
  have X1 : Ext Q Q w wd := .of_below e0
  have cx := cell_keep ed cx1
  have rx := tx.ext X1
  have cy := cell_keep ed cy1
  have ry := ty.ext X1
  have cR := cell_keep ed cR1
  have fR : wd.frozen? ⟨w.heap.size + 1 + 1, 0, none⟩ = false := (ed.frozen (p := ⟨w.heap.size + 1 + 1, 0, none⟩) (show w.heap.size + 1 + 1 < w1.heap.size by omega)).trans fR1
  have K0 : Hid (∀ w', Below wd.heap.size wd w' → w'.cell? ⟨w.heap.size, 0, none⟩ = some (.slice ax x.length kx) ∧ w'.cell? ⟨w.heap.size + 1, 0, none⟩ = some (.slice ay y.length ky)) := Lib.hid fun w' h => ⟨cell_keep h cx, cell_keep h cy⟩
  have K1 : Hid (∀ Q' w', Ext Q Q' wd w' → w'.cell? ⟨w.heap.size + 1 + 1, 0, none⟩ = some (.slice none 0 0) ∧ w'.frozen? ⟨w.heap.size + 1 + 1, 0, none⟩ = false ∧ ¬ Q' (w.heap.size + 1 + 1)) := Lib.hid fun Q' w' h => ⟨(h.cell (by omega) (NQ.out _ (by omega)) 0).trans cR, (h.frozen (by omega) (NQ.out _ (by omega)) 0).trans fR, h.not (by omega) (NQ.out _ (by omega))⟩
  have BB := Lib.hid (B.below e0)
  have XX := Lib.hid X1
  have Hx := Lib.hid rx
  have Hy := Lib.hid ry
  have zw : w.heap.size + 3 ≤ wd.heap.size := by omega
  clear e1 ed cR fR cR1 fR1 X1 B cx1 cx rx tx cy1 cy ry ty e0
  subst hd
  go_cut [9] (fun s9 wx => CutL base g gv s (bitsB s b (lessBD x y n) (n + 1)) (bitsBK s b (lessBD x y n) (n + 1)).2 Q w1.drew s9 wx)
  case first =>
    rename_i J K' hJ hK
    refine wp_region_drawn [9, 10, 11, 12, 13, 14, 15, 16, 17, 18, 19, 20] (fun d u wx => (d 3 = true → d 1 = true ∧ d 2 = true) ∧ (d 5 = true → d 4 = true) ∧ (d 6 = true → d 4 = true ∧ d 5 = true) ∧ (d 7 = true → d 1 = true ∧ d 2 = true ∧ d 3 = true ∧ d 4 = true ∧ d 5 = true ∧ d 6 = true) ∧ (d 9 = true → d 8 = true) ∧ (d 10 = true → d 0 = true ∧ d 1 = true ∧ d 2 = true ∧ d 3 = true ∧ d 4 = true ∧ d 5 = true ∧ d 6 = true ∧ d 7 = true ∧ d 8 = true ∧ d 9 = true) ∧ (d 11 = true → d 0 = true ∧ d 1 = true ∧ d 2 = true ∧ d 3 = true ∧ d 4 = true ∧ d 5 = true ∧ d 6 = true ∧ d 7 = true ∧ d 8 = true ∧ d 9 = true ∧ d 10 = true) ∧ (d 0 = true → u 10 = .pointer (some ⟨g, 0, none⟩)) ∧ (d 1 = true → u 11 = .agg #[.slice ax x.length kx]) ∧ (d 2 = true → u 12 = .agg #[.slice ay y.length ky]) ∧ (d 4 = true → u 14 = .int .i64 n) ∧ (d 5 = true → u 15 = .int .i64 ((2 : Int) ^ n)) ∧ (d 8 = true → u 18 = .int .i64 n) ∧ (d 9 = true → u 19 = .int .i64 ((n + 1 : Nat) : Int)) ∧ (d 11 = true → u 9 = u 20) ∧ (d 10 = false → Below w1.drew.heap.size w1.drew wx ∧ TV w1.drew (d 3) (u 13) (lcomb 2147483646 x y) wx ∧ TV w1.drew (d 6) (u 16) (constOf ((2 : Int) ^ n)) wx ∧ TV w1.drew (d 7) (u 17) (lessBD x y n) wx) ∧ (d 10 = true → CutL base g gv s (bitsB s b (lessBD x y n) (n + 1)) (bitsBK s b (lessBD x y n) (n + 1)).2 Q w1.drew (u 20) wx)) (by kernel_rfl) (by kernel_rfl) (by kernel_rfl) ?_ ?_ ?_
    · intro u; exact ⟨fun h => (by cases h), fun h => (by cases h), fun h => (by cases h), fun h => (by cases h), fun h => (by cases h), fun h => (by cases h), fun h => (by cases h), fun h => (by cases h), fun h => (by cases h), fun h => (by cases h), fun h => (by cases h), fun h => (by cases h), fun h => (by cases h), fun h => (by cases h), fun h => (by cases h), fun _ => ⟨Below.refl _ _, TV.none, TV.none, TV.none⟩, fun h => (by cases h)⟩
    · refine ⟨?_, ?_, ?_, ?_, ?_, ?_, ?_, ?_, ?_, ?_, ?_, ?_, trivial⟩
      · intro d u wx h0 hdp hF
        obtain ⟨g3, g5, g6, g7, g9, g10, g11, v0, v1, v2, v4, v5, v8, v9, v11, fP, fC⟩ := hF
        have n10 : d 10 = false := by cases h : d 10; rfl; have := (g10 h).1; rw [show d 0 = false from h0] at this; cases this
        have n11 : d 11 = false := by cases h : d 11; rfl; have := (g11 h).1; rw [show d 0 = false from h0] at this; cases this
        refine Wpv.env fun ρ hin hout hcon hfun => ?_
        have Ea : ρ (.tmp 0) = .pointer (some ⟨g, 0, none⟩) := (hout 0 (by kernel_rfl)).trans (by kernel_rfl)
        clear hin hout
        exact Wpv.value (v := .pointer (some ⟨g, 0, none⟩)) (w' := wx) (by clear g3 g5 g6 g7 g9 g10 g11 v0 v1 v2 v4 v5 v8 v9 v11 fP fC; simp only [execOp]; rw [Ea]; go_simp) ⟨g3, g5, g6, g7, g9, nopm n10, nopm n11, (fun _ => rfl), v1, v2, v4, v5, v8, v9, nopm n11, fP, nopm n10⟩
      · intro d u wx h0 hdp hF
        obtain ⟨g3, g5, g6, g7, g9, g10, g11, v0, v1, v2, v4, v5, v8, v9, v11, fP, fC⟩ := hF
        have n3 : d 3 = false := by cases h : d 3; rfl; have := (g3 h).1; rw [show d 1 = false from h0] at this; cases this
        have n7 : d 7 = false := by cases h : d 7; rfl; have := (g7 h).1; rw [show d 1 = false from h0] at this; cases this
        have n10 : d 10 = false := by cases h : d 10; rfl; have := (g10 h).2.1; rw [show d 1 = false from h0] at this; cases this
        have n11 : d 11 = false := by cases h : d 11; rfl; have := (g11 h).2.1; rw [show d 1 = false from h0] at this; cases this
        refine Wpv.env fun ρ hin hout hcon hfun => ?_
        have Ea : ρ (.tmp 5) = .pointer (some ⟨w.heap.size, 0, none⟩) := (hout 5 (by kernel_rfl)).trans (by kernel_rfl)
        clear hin hout
        obtain ⟨bX, -⟩ := id (fP n10)
        have c0 := (K0.out _ bX).1
        refine Wpv.value (v := .agg #[.slice ax x.length kx]) (w' := wx) ?_ ⟨nopm n3, g5, g6, nopm n7, g9, nopm n10, nopm n11, v0, (fun _ => rfl), v2, v4, v5, v8, v9, nopm n11, fP, nopm n10⟩
        clear g3 g5 g6 g7 g9 g10 g11 v0 v1 v2 v4 v5 v8 v9 v11 fP fC bX
        simp only [execOp]; rw [Ea]; go_simp
      · intro d u wx h0 hdp hF
        obtain ⟨g3, g5, g6, g7, g9, g10, g11, v0, v1, v2, v4, v5, v8, v9, v11, fP, fC⟩ := hF
        have n3 : d 3 = false := by cases h : d 3; rfl; have := (g3 h).2; rw [show d 2 = false from h0] at this; cases this
        have n7 : d 7 = false := by cases h : d 7; rfl; have := (g7 h).2.1; rw [show d 2 = false from h0] at this; cases this
        have n10 : d 10 = false := by cases h : d 10; rfl; have := (g10 h).2.2.1; rw [show d 2 = false from h0] at this; cases this
        have n11 : d 11 = false := by cases h : d 11; rfl; have := (g11 h).2.2.1; rw [show d 2 = false from h0] at this; cases this
        refine Wpv.env fun ρ hin hout hcon hfun => ?_
        have Ea : ρ (.tmp 6) = .pointer (some ⟨w.heap.size + 1, 0, none⟩) := (hout 6 (by kernel_rfl)).trans (by kernel_rfl)
        clear hin hout
        obtain ⟨bX, -⟩ := id (fP n10)
        have c0 := (K0.out _ bX).2
        refine Wpv.value (v := .agg #[.slice ay y.length ky]) (w' := wx) ?_ ⟨nopm n3, g5, g6, nopm n7, g9, nopm n10, nopm n11, v0, v1, (fun _ => rfl), v4, v5, v8, v9, nopm n11, fP, nopm n10⟩
        clear g3 g5 g6 g7 g9 g10 g11 v0 v1 v2 v4 v5 v8 v9 v11 fP fC bX
        simp only [execOp]; rw [Ea]; go_simp
      · intro d u wx h0 hdp hF
        obtain ⟨g3, g5, g6, g7, g9, g10, g11, v0, v1, v2, v4, v5, v8, v9, v11, fP, fC⟩ := hF
        have n7 : d 7 = false := by cases h : d 7; rfl; have := (g7 h).2.2.1; rw [show d 3 = false from h0] at this; cases this
        have n10 : d 10 = false := by cases h : d 10; rfl; have := (g10 h).2.2.2.1; rw [show d 3 = false from h0] at this; cases this
        have n11 : d 11 = false := by cases h : d 11; rfl; have := (g11 h).2.2.2.1; rw [show d 3 = false from h0] at this; cases this
        have gk : d 1 = true ∧ d 2 = true := ⟨hdp.get (j := 1) (by kernel_rfl), hdp.get (j := 2) (by kernel_rfl)⟩
        refine Wpv.env fun ρ hin hout hcon hfun => ?_
        have E0 := (hin 11 (by kernel_rfl)).trans (v1 (hdp.get (j := 1) (by kernel_rfl)))
        have E1 := (hin 12 (by kernel_rfl)).trans (v2 (hdp.get (j := 2) (by kernel_rfl)))
        clear hin hout
        obtain ⟨bX, t3, t6, t7⟩ := id (fP n10)
        refine Wpv.enter (f := 58) (args := #[.agg #[.slice ax x.length kx], .agg #[.slice ay y.length ky]]) (w' := wx) (by clear g3 g5 g6 g7 g9 g10 g11 v0 v1 v2 v4 v5 v8 v9 v11 fP fC t3 t6 t7 bX; simp only [execOp]; first | (rw [hcon]; go_simp) | go_simp) (linMinus_any _ _ _ _ x _ _ _ _ y wx (OutL.read (Hx.out.ext (Ext.of_below bX))) (Nat.le_refl _) (OutL.read (Hy.out.ext (Ext.of_below bX))) (Nat.le_refl _)) ?_
        rintro e' w' ⟨a9, rfl, j1, tN⟩
        obtain ⟨p9, k9, rfl, -⟩ := tN.shape
        exact ⟨_, rfl, ⟨(fun _ => gk), g5, g6, nopm n7, g9, nopm n10, nopm n11, v0, v1, v2, v4, v5, v8, v9, nopm n11, (fun _ => ⟨bX.trans (j1.mono bX.size), TV.new bX.size tN, t6.keep j1, t7.keep j1⟩), nopm n10⟩⟩
      · intro d u wx h0 hdp hF
        obtain ⟨g3, g5, g6, g7, g9, g10, g11, v0, v1, v2, v4, v5, v8, v9, v11, fP, fC⟩ := hF
        have n5 : d 5 = false := by cases h : d 5; rfl; have := (g5 h); rw [show d 4 = false from h0] at this; cases this
        have n6 : d 6 = false := by cases h : d 6; rfl; have := (g6 h).1; rw [show d 4 = false from h0] at this; cases this
        have n7 : d 7 = false := by cases h : d 7; rfl; have := (g7 h).2.2.2.1; rw [show d 4 = false from h0] at this; cases this
        have n10 : d 10 = false := by cases h : d 10; rfl; have := (g10 h).2.2.2.2.1; rw [show d 4 = false from h0] at this; cases this
        have n11 : d 11 = false := by cases h : d 11; rfl; have := (g11 h).2.2.2.2.1; rw [show d 4 = false from h0] at this; cases this
        refine Wpv.env fun ρ hin hout hcon hfun => ?_
        have Ea : ρ (.tmp 3) = .int .i64 n := (hout 3 (by kernel_rfl)).trans (by kernel_rfl)
        clear hin hout
        exact Wpv.value (v := .int .i64 n) (w' := wx) (by clear g3 g5 g6 g7 g9 g10 g11 v0 v1 v2 v4 v5 v8 v9 v11 fP fC; simp only [execOp]; rw [Ea]; go_simp) ⟨g3, nopm n5, nopm n6, nopm n7, g9, nopm n10, nopm n11, v0, v1, v2, (fun _ => rfl), nopm n5, v8, v9, nopm n11, fP, nopm n10⟩
      · intro d u wx h0 hdp hF
        obtain ⟨g3, g5, g6, g7, g9, g10, g11, v0, v1, v2, v4, v5, v8, v9, v11, fP, fC⟩ := hF
        have n6 : d 6 = false := by cases h : d 6; rfl; have := (g6 h).2; rw [show d 5 = false from h0] at this; cases this
        have n7 : d 7 = false := by cases h : d 7; rfl; have := (g7 h).2.2.2.2.1; rw [show d 5 = false from h0] at this; cases this
        have n10 : d 10 = false := by cases h : d 10; rfl; have := (g10 h).2.2.2.2.2.1; rw [show d 5 = false from h0] at this; cases this
        have n11 : d 11 = false := by cases h : d 11; rfl; have := (g11 h).2.2.2.2.2.1; rw [show d 5 = false from h0] at this; cases this
        have gk : d 4 = true := hdp.get (j := 4) (by kernel_rfl)
        refine Wpv.env fun ρ hin hout hcon hfun => ?_
        have Ea := (hin 14 (by kernel_rfl)).trans (v4 (hdp.get (j := 4) (by kernel_rfl)))
        clear hin hout
        refine Wpv.value (v := .int .i64 ((2 : Int) ^ n)) (w' := wx) ?_ ⟨g3, (fun _ => gk), nopm n6, nopm n7, g9, nopm n10, nopm n11, v0, v1, v2, v4, (fun _ => rfl), v8, v9, nopm n11, fP, nopm n10⟩
        clear g3 g5 g6 g7 g9 g10 g11 v0 v1 v2 v4 v5 v8 v9 v11 fP fC
        simp only [execOp]; rw [Ea]; first | (go_simp; done) | (go_simp; intro hh; exact absurd hh (by omega))
      · intro d u wx h0 hdp hF
        obtain ⟨g3, g5, g6, g7, g9, g10, g11, v0, v1, v2, v4, v5, v8, v9, v11, fP, fC⟩ := hF
        have n7 : d 7 = false := by cases h : d 7; rfl; have := (g7 h).2.2.2.2.2; rw [show d 6 = false from h0] at this; cases this
        have n10 : d 10 = false := by cases h : d 10; rfl; have := (g10 h).2.2.2.2.2.2.1; rw [show d 6 = false from h0] at this; cases this
        have n11 : d 11 = false := by cases h : d 11; rfl; have := (g11 h).2.2.2.2.2.2.1; rw [show d 6 = false from h0] at this; cases this
        have gk : d 4 = true ∧ d 5 = true := ⟨(g5 (hdp.get (j := 5) (by kernel_rfl))), hdp.get (j := 5) (by kernel_rfl)⟩
        refine Wpv.env fun ρ hin hout hcon hfun => ?_
        have E0 := (hin 15 (by kernel_rfl)).trans (v5 (hdp.get (j := 5) (by kernel_rfl)))
        clear hin hout
        obtain ⟨bX, t3, t6, t7⟩ := id (fP n10)
        refine Wpv.enter (f := 60) (args := #[.int .i64 ((2 : Int) ^ n)]) (w' := wx) (by clear g3 g5 g6 g7 g9 g10 g11 v0 v1 v2 v4 v5 v8 v9 v11 fP fC t3 t6 t7 bX; simp only [execOp]; first | (rw [hcon]; go_simp) | go_simp) (const_impl ((2 : Int) ^ n) wx (by omega) (by omega)) ?_
        rintro e' w' ⟨a9, rfl, j1, tN⟩
        obtain ⟨p9, k9, rfl, -⟩ := tN.shape
        exact ⟨_, rfl, ⟨g3, g5, (fun _ => gk), nopm n7, g9, nopm n10, nopm n11, v0, v1, v2, v4, v5, v8, v9, nopm n11, (fun _ => ⟨bX.trans (j1.mono bX.size), t3.keep j1, TV.new bX.size tN, t7.keep j1⟩), nopm n10⟩⟩
      · intro d u wx h0 hdp hF
        obtain ⟨g3, g5, g6, g7, g9, g10, g11, v0, v1, v2, v4, v5, v8, v9, v11, fP, fC⟩ := hF
        have n10 : d 10 = false := by cases h : d 10; rfl; have := (g10 h).2.2.2.2.2.2.2.1; rw [show d 7 = false from h0] at this; cases this
        have n11 : d 11 = false := by cases h : d 11; rfl; have := (g11 h).2.2.2.2.2.2.2.1; rw [show d 7 = false from h0] at this; cases this
        have gk : d 1 = true ∧ d 2 = true ∧ d 3 = true ∧ d 4 = true ∧ d 5 = true ∧ d 6 = true := ⟨(g3 (hdp.get (j := 3) (by kernel_rfl))).1, (g3 (hdp.get (j := 3) (by kernel_rfl))).2, hdp.get (j := 3) (by kernel_rfl), (g6 (hdp.get (j := 6) (by kernel_rfl))).1, (g6 (hdp.get (j := 6) (by kernel_rfl))).2, hdp.get (j := 6) (by kernel_rfl)⟩
        refine Wpv.env fun ρ hin hout hcon hfun => ?_
        have E0 := hin 13 (by kernel_rfl)
        have E1 := hin 16 (by kernel_rfl)
        clear hin hout
        obtain ⟨bX, t3, t6, t7⟩ := id (fP n10)
        obtain ⟨a0, k0, e0, T0⟩ := t3 (hdp.get (j := 3) (by kernel_rfl))
        have y0 := E0.trans e0
        clear E0 e0
        obtain ⟨a1, k1, e1, T1⟩ := t6 (hdp.get (j := 6) (by kernel_rfl))
        have y1 := E1.trans e1
        clear E1 e1
        refine Wpv.enter (f := 59) (args := #[.agg #[.slice a0 (lcomb 2147483646 x y).length k0], .agg #[.slice a1 (constOf ((2 : Int) ^ n)).length k1]]) (w' := wx) (by clear g3 g5 g6 g7 g9 g10 g11 v0 v1 v2 v4 v5 v8 v9 v11 fP fC T0 T1 t3 t6 t7 bX; simp only [execOp]; first | (rw [hcon]; go_simp) | go_simp) (plus_any _ _ _ _ _ _ _ _ _ _ wx T0 (Nat.le_refl _) T1 (Nat.le_refl _)) ?_
        rintro e' w' ⟨a9, rfl, j1, tN⟩
        obtain ⟨p9, k9, rfl, -⟩ := tN.shape
        exact ⟨_, rfl, ⟨g3, g5, g6, (fun _ => gk), g9, nopm n10, nopm n11, v0, v1, v2, v4, v5, v8, v9, nopm n11, (fun _ => ⟨bX.trans (j1.mono bX.size), t3.keep j1, t6.keep j1, TV.new bX.size tN⟩), nopm n10⟩⟩
      · intro d u wx h0 hdp hF
        obtain ⟨g3, g5, g6, g7, g9, g10, g11, v0, v1, v2, v4, v5, v8, v9, v11, fP, fC⟩ := hF
        have n9 : d 9 = false := by cases h : d 9; rfl; have := (g9 h); rw [show d 8 = false from h0] at this; cases this
        have n10 : d 10 = false := by cases h : d 10; rfl; have := (g10 h).2.2.2.2.2.2.2.2.1; rw [show d 8 = false from h0] at this; cases this
        have n11 : d 11 = false := by cases h : d 11; rfl; have := (g11 h).2.2.2.2.2.2.2.2.1; rw [show d 8 = false from h0] at this; cases this
        refine Wpv.env fun ρ hin hout hcon hfun => ?_
        have Ea : ρ (.tmp 3) = .int .i64 n := (hout 3 (by kernel_rfl)).trans (by kernel_rfl)
        clear hin hout
        exact Wpv.value (v := .int .i64 n) (w' := wx) (by clear g3 g5 g6 g7 g9 g10 g11 v0 v1 v2 v4 v5 v8 v9 v11 fP fC; simp only [execOp]; rw [Ea]; go_simp) ⟨g3, g5, g6, g7, nopm n9, nopm n10, nopm n11, v0, v1, v2, v4, v5, (fun _ => rfl), nopm n9, nopm n11, fP, nopm n10⟩
      · intro d u wx h0 hdp hF
        obtain ⟨g3, g5, g6, g7, g9, g10, g11, v0, v1, v2, v4, v5, v8, v9, v11, fP, fC⟩ := hF
        have n10 : d 10 = false := by cases h : d 10; rfl; have := (g10 h).2.2.2.2.2.2.2.2.2; rw [show d 9 = false from h0] at this; cases this
        have n11 : d 11 = false := by cases h : d 11; rfl; have := (g11 h).2.2.2.2.2.2.2.2.2.1; rw [show d 9 = false from h0] at this; cases this
        have gk : d 8 = true := hdp.get (j := 8) (by kernel_rfl)
        refine Wpv.env fun ρ hin hout hcon hfun => ?_
        have Ea := (hin 18 (by kernel_rfl)).trans (v8 (hdp.get (j := 8) (by kernel_rfl)))
        clear hin hout
        refine Wpv.value (v := .int .i64 ((n + 1 : Nat) : Int)) (w' := wx) ?_ ⟨g3, g5, g6, g7, (fun _ => gk), nopm n10, nopm n11, v0, v1, v2, v4, v5, v8, (fun _ => rfl), nopm n11, fP, nopm n10⟩
        clear g3 g5 g6 g7 g9 g10 g11 v0 v1 v2 v4 v5 v8 v9 v11 fP fC
        simp only [execOp]; rw [Ea]; first | (go_simp; done) | (go_simp; intro hh; exact absurd hh (by omega))
      · intro d u wx h0 hdp hF
        obtain ⟨g3, g5, g6, g7, g9, g10, g11, v0, v1, v2, v4, v5, v8, v9, v11, fP, fC⟩ := hF
        have n11 : d 11 = false := by cases h : d 11; rfl; have := (g11 h).2.2.2.2.2.2.2.2.2.2; rw [show d 10 = false from h0] at this; cases this
        have n10 : d 10 = false := h0
        have gk : d 0 = true ∧ d 1 = true ∧ d 2 = true ∧ d 3 = true ∧ d 4 = true ∧ d 5 = true ∧ d 6 = true ∧ d 7 = true ∧ d 8 = true ∧ d 9 = true := ⟨hdp.get (j := 0) (by kernel_rfl), (g7 (hdp.get (j := 7) (by kernel_rfl))).1, (g7 (hdp.get (j := 7) (by kernel_rfl))).2.1, (g7 (hdp.get (j := 7) (by kernel_rfl))).2.2.1, (g7 (hdp.get (j := 7) (by kernel_rfl))).2.2.2.1, (g7 (hdp.get (j := 7) (by kernel_rfl))).2.2.2.2.1, (g7 (hdp.get (j := 7) (by kernel_rfl))).2.2.2.2.2, hdp.get (j := 7) (by kernel_rfl), (g9 (hdp.get (j := 9) (by kernel_rfl))), hdp.get (j := 9) (by kernel_rfl)⟩
        refine Wpv.env fun ρ hin hout hcon hfun => ?_
        have E0 := (hin 10 (by kernel_rfl)).trans (v0 (hdp.get (j := 0) (by kernel_rfl)))
        have E1 := hin 17 (by kernel_rfl)
        have E2 := (hin 19 (by kernel_rfl)).trans (v9 (hdp.get (j := 9) (by kernel_rfl)))
        clear hin hout
        obtain ⟨bX, t3, t6, t7⟩ := id (fP n10)
        obtain ⟨a1, k1, e1, T1⟩ := t7 (hdp.get (j := 7) (by kernel_rfl))
        have y1 := E1.trans e1
        clear E1 e1
        have XB := XX.out.trans (Ext.of_below (Q := Q) bX)
        have zB := bX.size
        have OD : OutL true Q wx (.slice a1 (lessBD x y n).length k1) (lessBD x y n) := T1.toF fun k h1 h2 => ⟨h2, fun r => by have := LQ.out k r; have := XX.out.size; omega⟩
        refine Wpv.enter (f := 24) (args := #[.pointer (some ⟨g, 0, none⟩), .agg #[.slice a1 (lessBD x y n).length k1], .int .i64 ((n + 1 : Nat) : Int)]) (w' := wx) (by clear g3 g5 g6 g7 g9 g10 g11 v0 v1 v2 v4 v5 v8 v9 v11 fP fC t3 t6 t7 T1 OD XB bX; go_simp) (bitsB_any base g gv s b Q true _ (lessBD x y n) (n + 1) wx (BB.out.below bX) OD (Nat.le_trans (lcomb_len _ _ _) (by omega)) (by omega) i0 i1 nh nc nb) ?_
        rintro e' w' ⟨u9, Q2, rfl, B2, N2, X2⟩
        obtain ⟨p9, k9, rfl, -⟩ := N2.shape
        exact ⟨_, rfl, ⟨g3, g5, g6, g7, g9, (fun _ => gk), nopm n11, v0, v1, v2, v4, v5, v8, v9, nopm n11, (fun h => (by cases h)), (fun _ => ⟨wx, Q2, bX, B2, N2, X2⟩)⟩⟩
      · intro d u wx h0 hdp hF
        obtain ⟨g3, g5, g6, g7, g9, g10, g11, v0, v1, v2, v4, v5, v8, v9, v11, fP, fC⟩ := hF
        have gk : d 0 = true ∧ d 1 = true ∧ d 2 = true ∧ d 3 = true ∧ d 4 = true ∧ d 5 = true ∧ d 6 = true ∧ d 7 = true ∧ d 8 = true ∧ d 9 = true ∧ d 10 = true := ⟨(g10 (hdp.get (j := 10) (by kernel_rfl))).1, (g10 (hdp.get (j := 10) (by kernel_rfl))).2.1, (g10 (hdp.get (j := 10) (by kernel_rfl))).2.2.1, (g10 (hdp.get (j := 10) (by kernel_rfl))).2.2.2.1, (g10 (hdp.get (j := 10) (by kernel_rfl))).2.2.2.2.1, (g10 (hdp.get (j := 10) (by kernel_rfl))).2.2.2.2.2.1, (g10 (hdp.get (j := 10) (by kernel_rfl))).2.2.2.2.2.2.1, (g10 (hdp.get (j := 10) (by kernel_rfl))).2.2.2.2.2.2.2.1, (g10 (hdp.get (j := 10) (by kernel_rfl))).2.2.2.2.2.2.2.2.1, (g10 (hdp.get (j := 10) (by kernel_rfl))).2.2.2.2.2.2.2.2.2, hdp.get (j := 10) (by kernel_rfl)⟩
        refine Wpv.env fun ρ hin hout hcon hfun => ?_
        have Ea := hin 20 (by kernel_rfl)
        clear hin hout
        exact Wpv.value (v := u 20) (w' := wx) (by simp only [execOp]; rw [Ea]; rfl) ⟨g3, g5, g6, g7, g9, g10, (fun _ => gk), v0, v1, v2, v4, v5, v8, v9, (fun _ => rfl), fP, fC⟩
    · intro d u wx hall hF
      obtain ⟨g3, g5, g6, g7, g9, g10, g11, v0, v1, v2, v4, v5, v8, v9, v11, fP, fC⟩ := hF
      have fD := fC (hall 10 (by decide))
      have fA := v11 (hall 11 (by decide))
      clear g3 g5 g6 g7 g9 g10 g11 v0 v1 v2 v4 v5 v8 v9 v11 fP fC
      refine hK _ _ (Met.intro (hJ _ _ ?_))
      simp only [setF, List.foldl_cons, List.foldl_nil, Act.put, List.setIfInBounds_toArray, List.set_cons_zero, List.set_cons_succ]
      repeat apply Exists.intro
      exact ⟨by rw [fA]; exact fD, rfl⟩
  obtain ⟨wb, Q2, bB, B2, N2, X2⟩ := hcut
  obtain ⟨pb, kb, rfl, lb, mb⟩ := N2.shape
  have LS := N2.lins
  have hlen := bitsBK_len s b (lessBD x y n) (n + 1)
  obtain ⟨bb, ob, ue, rfl, lb1, lb2, cB, tB⟩ := LS.at (j := n) (by rw [hlen]; omega)
  have hgd : (bitsBK s b (lessBD x y n) (n + 1)).2[n]'(by rw [hlen]; omega) = (bitsBK s b (lessBD x y n) (n + 1)).2.getD n [] := by rw [List.getD_eq_getElem?_getD, List.getElem?_eq_getElem]; rfl
  rw [hgd] at tB
  obtain ⟨Bn, hBn⟩ : ∃ Bn, Bn = (bitsBK s b (lessBD x y n) (n + 1)).2.getD n [] := ⟨_, rfl⟩
  rw [← hBn] at tB
  have HBn := Lib.hid hBn
  clear hBn hgd LS
  obtain ⟨ae, ke, rfl, le, me⟩ := tB.shape
  rw [hlen]
  rw [hlen] at lb
  clear hlen
  have XA := XX.out.trans ((Ext.of_below (Q := Q) bB).trans X2)
  obtain ⟨cR2, fR2, nR2⟩ := K1.out _ _ ((Ext.of_below (Q := Q) bB).trans X2)
  have zA := bB.size
  have zA2 := X2.size
  have lR2 : w.heap.size + 1 + 1 < wc.heap.size := World.block_lt_of_cell? _ _ cR2
  have L2 := Lib.hid B2.lim
  clear K0 K1 BB XX Hx Hy X2 bB N2
  go_wp2_with fail
  generalize hd2 : wc.drew = wd2
  have ed2 : Below wc.heap.size wc wd2 := by rw [← hd2]; exact (Below.refl _ _).drew
  have zd2 := ed2.size
  have cBX := cell_keep ed2 cB
  have tBX := tB.keep ed2 (Nat.le_refl _)
  have cRX := cell_keep ed2 cR2
  have fRX : wd2.frozen? ⟨w.heap.size + 1 + 1, 0, none⟩ = false := (ed2.frozen (p := ⟨w.heap.size + 1 + 1, 0, none⟩) lR2).trans fR2
  have lRX : w.heap.size + 1 + 1 < wd2.heap.size := by omega
  have XD : Ext Q2 Q2 wc wd2 := Ext.of_below ed2
  have X3 := XA.trans XD
  have B3 := Lib.hid (B2.below ed2)
  have L3 : Hid (∀ k, Q2 k → k < wd2.heap.size) := Lib.hid fun k q => by have := L2.out k q; omega
  clear cB tB cR2 fR2 XA XD ed2 B2 L2
  subst hd2
  go_cut [26] (fun s26 wx => CutQ wc.drew (w.heap.size + 1 + 1) (lcomb 2147483646 (constOf 1) Bn) wx)
  case first =>
    rename_i J K' hJ hK
    refine wp_region_drawn [21, 22, 23, 24, 25, 26] (fun d u wx => (d 3 = true → d 1 = true ∧ d 2 = true) ∧ (d 4 = true → d 1 = true ∧ d 2 = true ∧ d 3 = true) ∧ (d 5 = true → d 0 = true ∧ d 1 = true ∧ d 2 = true ∧ d 3 = true ∧ d 4 = true) ∧ (d 6 = true → d 0 = true ∧ d 1 = true ∧ d 2 = true ∧ d 3 = true ∧ d 4 = true ∧ d 5 = true) ∧ (d 1 = true → u 22 = .slice (some ⟨bb, ob, none⟩) (n + 1) kb) ∧ (d 2 = true → u 23 = .int .i64 n) ∧ (d 3 = true → u 24 = .pointer (some ⟨bb, ob + n, none⟩)) ∧ (d 4 = true → u 25 = .agg #[.slice ae Bn.length ke]) ∧ (d 6 = false → Below wc.drew.heap.size wc.drew wx ∧ TV wc.drew (d 0) (u 21) (constOf 1) wx ∧ TV wc.drew (d 5) (u 26) (lcomb 2147483646 (constOf 1) Bn) wx) ∧ (d 6 = true → CutQ wc.drew (w.heap.size + 1 + 1) (lcomb 2147483646 (constOf 1) Bn) wx)) (by kernel_rfl) (by kernel_rfl) (by kernel_rfl) ?_ ?_ ?_
    · intro u; exact ⟨fun h => (by cases h), fun h => (by cases h), fun h => (by cases h), fun h => (by cases h), fun h => (by cases h), fun h => (by cases h), fun h => (by cases h), fun h => (by cases h), fun _ => ⟨Below.refl _ _, TV.none, TV.none⟩, fun h => (by cases h)⟩
    · refine ⟨?_, ?_, ?_, ?_, ?_, ?_, ?_, trivial⟩
      · intro d u wx h0 hdp hF
        obtain ⟨g3, g4, g5, g6, v1, v2, v3, v4, fP, fC⟩ := hF
        have n5 : d 5 = false := by cases h : d 5; rfl; have := (g5 h).1; rw [show d 0 = false from h0] at this; cases this
        have n6 : d 6 = false := by cases h : d 6; rfl; have := (g6 h).1; rw [show d 0 = false from h0] at this; cases this
        refine Wpv.env fun ρ hin hout hcon hfun => ?_
        clear hin hout
        obtain ⟨bX, t0, t5⟩ := id (fP n6)
        refine Wpv.enter (f := 60) (args := #[.int .i64 1]) (w' := wx) (by clear g3 g4 g5 g6 v1 v2 v3 v4 fP fC t0 t5 bX; simp only [execOp]; first | (rw [hcon]; go_simp) | go_simp) (const_impl 1 wx (by omega) (by omega)) ?_
        rintro e' w' ⟨a9, rfl, j1, tN⟩
        obtain ⟨p9, k9, rfl, -⟩ := tN.shape
        exact ⟨_, rfl, ⟨g3, g4, nopm n5, nopm n6, v1, v2, v3, v4, (fun _ => ⟨bX.trans (j1.mono bX.size), TV.new bX.size tN, t5.keep j1⟩), nopm n6⟩⟩
      · intro d u wx h0 hdp hF
        obtain ⟨g3, g4, g5, g6, v1, v2, v3, v4, fP, fC⟩ := hF
        have n3 : d 3 = false := by cases h : d 3; rfl; have := (g3 h).1; rw [show d 1 = false from h0] at this; cases this
        have n4 : d 4 = false := by cases h : d 4; rfl; have := (g4 h).1; rw [show d 1 = false from h0] at this; cases this
        have n5 : d 5 = false := by cases h : d 5; rfl; have := (g5 h).2.1; rw [show d 1 = false from h0] at this; cases this
        have n6 : d 6 = false := by cases h : d 6; rfl; have := (g6 h).2.1; rw [show d 1 = false from h0] at this; cases this
        refine Wpv.env fun ρ hin hout hcon hfun => ?_
        have Ea : ρ (.tmp 9) = .slice (some ⟨bb, ob, none⟩) (n + 1) kb := (hout 9 (by kernel_rfl)).trans (by kernel_rfl)
        clear hin hout
        exact Wpv.value (v := .slice (some ⟨bb, ob, none⟩) (n + 1) kb) (w' := wx) (by clear g3 g4 g5 g6 v1 v2 v3 v4 fP fC; simp only [execOp]; rw [Ea]; go_simp) ⟨nopm n3, nopm n4, nopm n5, nopm n6, (fun _ => rfl), v2, nopm n3, nopm n4, fP, nopm n6⟩
      · intro d u wx h0 hdp hF
        obtain ⟨g3, g4, g5, g6, v1, v2, v3, v4, fP, fC⟩ := hF
        have n3 : d 3 = false := by cases h : d 3; rfl; have := (g3 h).2; rw [show d 2 = false from h0] at this; cases this
        have n4 : d 4 = false := by cases h : d 4; rfl; have := (g4 h).2.1; rw [show d 2 = false from h0] at this; cases this
        have n5 : d 5 = false := by cases h : d 5; rfl; have := (g5 h).2.2.1; rw [show d 2 = false from h0] at this; cases this
        have n6 : d 6 = false := by cases h : d 6; rfl; have := (g6 h).2.2.1; rw [show d 2 = false from h0] at this; cases this
        refine Wpv.env fun ρ hin hout hcon hfun => ?_
        have Ea : ρ (.tmp 3) = .int .i64 n := (hout 3 (by kernel_rfl)).trans (by kernel_rfl)
        clear hin hout
        exact Wpv.value (v := .int .i64 n) (w' := wx) (by clear g3 g4 g5 g6 v1 v2 v3 v4 fP fC; simp only [execOp]; rw [Ea]; go_simp) ⟨nopm n3, nopm n4, nopm n5, nopm n6, v1, (fun _ => rfl), nopm n3, nopm n4, fP, nopm n6⟩
      · intro d u wx h0 hdp hF
        obtain ⟨g3, g4, g5, g6, v1, v2, v3, v4, fP, fC⟩ := hF
        have n4 : d 4 = false := by cases h : d 4; rfl; have := (g4 h).2.2; rw [show d 3 = false from h0] at this; cases this
        have n5 : d 5 = false := by cases h : d 5; rfl; have := (g5 h).2.2.2.1; rw [show d 3 = false from h0] at this; cases this
        have n6 : d 6 = false := by cases h : d 6; rfl; have := (g6 h).2.2.2.1; rw [show d 3 = false from h0] at this; cases this
        have gk : d 1 = true ∧ d 2 = true := ⟨hdp.get (j := 1) (by kernel_rfl), hdp.get (j := 2) (by kernel_rfl)⟩
        refine Wpv.env fun ρ hin hout hcon hfun => ?_
        have Ea := (hin 22 (by kernel_rfl)).trans (v1 (hdp.get (j := 1) (by kernel_rfl)))
        have Eb := (hin 23 (by kernel_rfl)).trans (v2 (hdp.get (j := 2) (by kernel_rfl)))
        clear hin hout
        refine Wpv.value (v := .pointer (some ⟨bb, ob + n, none⟩)) (w' := wx) ?_ ⟨(fun _ => gk), nopm n4, nopm n5, nopm n6, v1, v2, (fun _ => rfl), nopm n4, fP, nopm n6⟩
        clear g3 g4 g5 g6 v1 v2 v3 v4 fP fC
        simp only [execOp]; rw [Ea, Eb]; first | (go_simp; done) | (go_simp; intro hh; exact absurd hh (by omega))
      · intro d u wx h0 hdp hF
        obtain ⟨g3, g4, g5, g6, v1, v2, v3, v4, fP, fC⟩ := hF
        have n5 : d 5 = false := by cases h : d 5; rfl; have := (g5 h).2.2.2.2; rw [show d 4 = false from h0] at this; cases this
        have n6 : d 6 = false := by cases h : d 6; rfl; have := (g6 h).2.2.2.2.1; rw [show d 4 = false from h0] at this; cases this
        have gk : d 1 = true ∧ d 2 = true ∧ d 3 = true := ⟨(g3 (hdp.get (j := 3) (by kernel_rfl))).1, (g3 (hdp.get (j := 3) (by kernel_rfl))).2, hdp.get (j := 3) (by kernel_rfl)⟩
        refine Wpv.env fun ρ hin hout hcon hfun => ?_
        have Ea := (hin 24 (by kernel_rfl)).trans (v3 (hdp.get (j := 3) (by kernel_rfl)))
        clear hin hout
        obtain ⟨bX, -⟩ := id (fP n6)
        have c0 := cell_keep bX cBX
        refine Wpv.value (v := .agg #[.slice ae Bn.length ke]) (w' := wx) ?_ ⟨g3, (fun _ => gk), nopm n5, nopm n6, v1, v2, v3, (fun _ => rfl), fP, nopm n6⟩
        clear g3 g4 g5 g6 v1 v2 v3 v4 fP fC bX
        simp only [execOp]; rw [Ea]; go_simp
      · intro d u wx h0 hdp hF
        obtain ⟨g3, g4, g5, g6, v1, v2, v3, v4, fP, fC⟩ := hF
        have n6 : d 6 = false := by cases h : d 6; rfl; have := (g6 h).2.2.2.2.2; rw [show d 5 = false from h0] at this; cases this
        have gk : d 0 = true ∧ d 1 = true ∧ d 2 = true ∧ d 3 = true ∧ d 4 = true := ⟨hdp.get (j := 0) (by kernel_rfl), (g4 (hdp.get (j := 4) (by kernel_rfl))).1, (g4 (hdp.get (j := 4) (by kernel_rfl))).2.1, (g4 (hdp.get (j := 4) (by kernel_rfl))).2.2, hdp.get (j := 4) (by kernel_rfl)⟩
        refine Wpv.env fun ρ hin hout hcon hfun => ?_
        have E0 := hin 21 (by kernel_rfl)
        have E1 := (hin 25 (by kernel_rfl)).trans (v4 (hdp.get (j := 4) (by kernel_rfl)))
        clear hin hout
        obtain ⟨bX, t0, t5⟩ := id (fP n6)
        obtain ⟨a0, k0, e0, T0⟩ := t0 (hdp.get (j := 0) (by kernel_rfl))
        have y0 := E0.trans e0
        clear E0 e0
        refine Wpv.enter (f := 58) (args := #[.agg #[.slice a0 (constOf 1).length k0], .agg #[.slice ae Bn.length ke]]) (w' := wx) (by clear g3 g4 g5 g6 v1 v2 v3 v4 fP fC T0 t0 t5 bX; simp only [execOp]; first | (rw [hcon]; go_simp) | go_simp) (linMinus_any _ _ _ _ (constOf 1) _ _ _ _ Bn wx T0 (Nat.le_refl _) (tBX.keep bX (by omega)) (by have := bX.size; omega)) ?_
        rintro e' w' ⟨a9, rfl, j1, tN⟩
        obtain ⟨p9, k9, rfl, -⟩ := tN.shape
        exact ⟨_, rfl, ⟨g3, g4, (fun _ => gk), nopm n6, v1, v2, v3, v4, (fun _ => ⟨bX.trans (j1.mono bX.size), t0.keep j1, TV.new bX.size tN⟩), nopm n6⟩⟩
      · intro d u wx h0 hdp hF
        obtain ⟨g3, g4, g5, g6, v1, v2, v3, v4, fP, fC⟩ := hF
        have n6 : d 6 = false := h0
        have gk : d 0 = true ∧ d 1 = true ∧ d 2 = true ∧ d 3 = true ∧ d 4 = true ∧ d 5 = true := ⟨(g5 (hdp.get (j := 5) (by kernel_rfl))).1, (g5 (hdp.get (j := 5) (by kernel_rfl))).2.1, (g5 (hdp.get (j := 5) (by kernel_rfl))).2.2.1, (g5 (hdp.get (j := 5) (by kernel_rfl))).2.2.2.1, (g5 (hdp.get (j := 5) (by kernel_rfl))).2.2.2.2, hdp.get (j := 5) (by kernel_rfl)⟩
        refine Wpv.env fun ρ hin hout hcon hfun => ?_
        have Ea : ρ (.tmp 8) = .pointer (some ⟨w.heap.size + 1 + 1, 0, none⟩) := (hout 8 (by kernel_rfl)).trans (by kernel_rfl)
        have Eb := hin 26 (by kernel_rfl)
        clear hin hout
        obtain ⟨bX, t0, t5⟩ := id (fP n6)
        obtain ⟨a0, k0, e0, T0⟩ := t5 (hdp.get (j := 5) (by kernel_rfl))
        have y0 := Eb.trans e0
        clear Eb e0
        have cR := cell_keep bX cRX
        have fR := (bX.frozen (p := ⟨w.heap.size + 1 + 1, 0, none⟩) lRX).trans fRX
        refine Wpv.skip (w' := wx.setCell ⟨w.heap.size + 1 + 1, 0, none⟩ (.slice a0 (lcomb 2147483646 (constOf 1) Bn).length k0)) (by clear g3 g4 g5 g6 v1 v2 v3 v4 fP fC T0 t0 t5 bX; go_simp) ?_
        exact ⟨g3, g4, g5, (fun _ => gk), v1, v2, v3, v4, (fun h => (by cases h)), (fun _ => ⟨wx, a0, k0, rfl, bX, T0⟩)⟩
    · intro d u wx hall hF
      obtain ⟨g3, g4, g5, g6, v1, v2, v3, v4, fP, fC⟩ := hF
      have fD := fC (hall 6 (by decide))
      clear g3 g4 g5 g6 v1 v2 v3 v4 fP fC
      refine hK _ _ (Met.intro (hJ _ _ ?_))
      simp only [setF, List.foldl_cons, List.foldl_nil, Act.put, List.setIfInBounds_toArray, List.set_cons_zero, List.set_cons_succ]
      repeat apply Exists.intro
      exact ⟨fD, rfl⟩
  obtain ⟨wq, aq, kq, rfl, bq, tq⟩ := hcut
  have cq := cell_keep bq cRX
  have X4 := X3.trans (Ext.of_below (Q := Q2) bq)
  have zq := bq.size
  have N4 : NewL wc.drew.heap.size Q2 wq (.slice aq (lcomb 2147483646 (constOf 1) Bn).length kq) (lcomb 2147483646 (constOf 1) Bn) := NewL.made tq (Nat.le_refl _) (fun k q => L3.out k q)
  clear cBX tBX cRX fRX X3
  go_wp2_with fail
  exact bodyPost_ret (v := .agg #[.slice aq (lcomb 2147483646 (constOf 1) Bn).length kq]) (by simp [results, Try.results37, go_sem, cq]) rfl (RetV.of rfl (by unfold lessBZ; rw [HBn.out]) ((B3.out.below bq).boxed nR2) (lin_store (lo := wc.drew.heap.size) N4 (by omega) (by omega)) (ext_boxed X4 (by omega)))
end Go.Proofs.Ytcenijdaacbgpaa.L
