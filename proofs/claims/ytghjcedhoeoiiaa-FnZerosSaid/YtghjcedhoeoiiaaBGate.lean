/- The builder's mux and xor (written by tools/gen/gates.py). -/
import Derived.Test.YtghjcedhoeoiiaaBOps
namespace Go.Proofs.Ytghjcedhoeoiiaa.L
open Go.RowKit Go.Proofs.Ytghjcedhoeoiiaa.S
set_option linter.unusedVariables false
set_option linter.unusedSimpArgs false

theorem cell_oth {w : World} {b j c i : Nat} {x u : Value} (hne : b ≠ c) (h : w.cell? ⟨c, i, none⟩ = some x) : (w.setCell ⟨b, j, none⟩ u).cell? ⟨c, i, none⟩ = some x :=
  (World.cell?_setCell_other _ _ _ _ (fun e => hne (congrArg Addr.block e))).trans h
def muxB (s : SysC) (b : Bd) (z x y : List T) : Bd := mulB s b z (lcomb 2147483646 x y)
def muxBZ (s : SysC) (b : Bd) (y : List T) : List T := lcomb 1 y (bVar s b)
set_option maxRecDepth 100000 in
set_option maxHeartbeats 6400000 in
theorem muxB_any (base g : Nat) (gv : Gv) (s : SysC) (b : Bd) (Q : Nat → Prop) (oz : Bool) (vz : Value) (z : List T) (ox : Bool) (vx : Value) (x : List T) (oy : Bool) (vy : Value) (y : List T) (w : World) (B : Bld base g gv s b Q w) (tz : OutL oz Q w vz z) (tx : OutL ox Q w vx x) (ty : OutL oy Q w vy y)
    (nz : z.length ≤ 1048576) (nx : x.length ≤ 1048576) (ny : y.length ≤ 1048576) (i0 : 0 ≤ s.ins) (i1 : s.ins ≤ 100) (nh : s.hints.length ≤ 1048576) (nc : s.cons.length ≤ 1048576) (nb : b.n + 1 ≤ 1000000) :
    Calls Try.prog 38 #[.pointer (some ⟨g, 0, none⟩), .agg #[vz], .agg #[vx], .agg #[vy]] w (RetV base g gv s (muxB s b z x y) (muxBZ s b y) Q w) := by
  obtain ⟨az, kz, rfl, lz, mz⟩ := tz.shape
  obtain ⟨ax, kx, rfl, lx, mx⟩ := tx.shape
  obtain ⟨ay, ky, rfl, ly, my⟩ := ty.shape
  have LQ := Lib.hid B.lim
  have NQ : Hid (∀ i, w.heap.size ≤ i → ¬ Q i) := Lib.hid fun i hi q => by have := LQ.out i q; omega
  go_enter Try.func38, Try.ntmps38
  go_wp2_with fail
  refine name_wp fun w1 hw1 => ?_
  have e1 : Below w.heap.size w w1 := by rw [hw1]; (repeat (with_reducible first | exact bR _ _ | assumption | refine bD ?_ | refine bN ?_ _ | refine bA ?_ _ | refine bS ?_ _))
  have z1 : w.heap.size + 4 ≤ w1.heap.size := by rw [hw1]; simp
  have cz1 : w1.cell? ⟨w.heap.size, 0, none⟩ = some (.slice az z.length kz) := by rw [hw1]; first | (simp; done) | go_simp
  have cx1 : w1.cell? ⟨w.heap.size + 1, 0, none⟩ = some (.slice ax x.length kx) := by rw [hw1]; first | (simp; done) | go_simp
  have cy1 : w1.cell? ⟨w.heap.size + 1 + 1, 0, none⟩ = some (.slice ay y.length ky) := by rw [hw1]; first | (simp; done) | go_simp
  have cR1 : w1.cell? ⟨w.heap.size + 1 + 1 + 1, 0, none⟩ = some (.slice none 0 0) := by rw [hw1]; first | (simp; done) | go_simp
  have fR1 : w1.frozen? ⟨w.heap.size + 1 + 1 + 1, 0, none⟩ = false := by rw [hw1]; first | (simp; done) | go_simp
  clear hw1
  generalize hd : w1.drew = wd
  have ed : Below w1.heap.size w1 wd := by rw [← hd]; exact (Below.refl _ _).drew
  have zd := ed.size
  have e0 : Below w.heap.size w wd := e1.trans (ed.mono (by omega))
  have X1 : Ext Q Q w wd := .of_below e0
  have cz := cell_keep ed cz1
  have rz := tz.ext X1
  have cx := cell_keep ed cx1
  have rx := tx.ext X1
  have cy := cell_keep ed cy1
  have ry := ty.ext X1
  have cR := cell_keep ed cR1
  have fR : wd.frozen? ⟨w.heap.size + 1 + 1 + 1, 0, none⟩ = false := (ed.frozen (p := ⟨w.heap.size + 1 + 1 + 1, 0, none⟩) (show w.heap.size + 1 + 1 + 1 < w1.heap.size by omega)).trans fR1
  have K0 : Hid (∀ Q' w', Ext Q Q' wd w' → w'.cell? ⟨w.heap.size, 0, none⟩ = some (.slice az z.length kz) ∧ w'.cell? ⟨w.heap.size + 1, 0, none⟩ = some (.slice ax x.length kx) ∧ w'.cell? ⟨w.heap.size + 1 + 1, 0, none⟩ = some (.slice ay y.length ky)) := Lib.hid fun Q' w' h => ⟨(h.cell (by omega) (NQ.out _ (by omega)) 0).trans cz, (h.cell (by omega) (NQ.out _ (by omega)) 0).trans cx, (h.cell (by omega) (NQ.out _ (by omega)) 0).trans cy⟩
  have K1 : Hid (∀ Q' w', Ext Q Q' wd w' → w'.cell? ⟨w.heap.size + 1 + 1 + 1, 0, none⟩ = some (.slice none 0 0) ∧ w'.frozen? ⟨w.heap.size + 1 + 1 + 1, 0, none⟩ = false ∧ ¬ Q' (w.heap.size + 1 + 1 + 1)) := Lib.hid fun Q' w' h => ⟨(h.cell (by omega) (NQ.out _ (by omega)) 0).trans cR, (h.frozen (by omega) (NQ.out _ (by omega)) 0).trans fR, h.not (by omega) (NQ.out _ (by omega))⟩
  have BB := Lib.hid (B.below e0)
  have XX := Lib.hid X1
  have Hz := Lib.hid rz
  have Hx := Lib.hid rx
  have Hy := Lib.hid ry
  clear e1 ed cR fR cR1 fR1 X1 B cz1 cz rz tz cx1 cx rx tx cy1 cy ry ty
  subst hd
  go_region_held3 (fun w' => w'.cell? ⟨w.heap.size, 0, none⟩ = some (.slice az z.length kz) ∧ w'.cell? ⟨w.heap.size + 1, 0, none⟩ = some (.slice ax x.length kx) ∧ w'.cell? ⟨w.heap.size + 1 + 1, 0, none⟩ = some (.slice ay y.length ky)) (first | exact K0.out _ _ (Ext.refl _ _) | exact K0.out _ _ Y2 | exact K0.out _ _ Y3 | exact K0.out _ _ Y4 | (have hk := K0.out _ _ Y4; exact ⟨cell_oth (by omega) hk.1, cell_oth (by omega) hk.2.1, cell_oth (by omega) hk.2.2⟩))
    (first
      | (go_at_call 63; (with_reducible refine (linMinus_any _ _ _ _ x _ _ _ _ y _ (OutL.read Hx.out) (Nat.le_refl _) (OutL.read Hy.out) (Nat.le_refl _)).mono ?_); rintro e w2 ⟨u2, rfl, f2, t2⟩; obtain ⟨p2, k2, rfl, l2, b2⟩ := t2.shape; have z2 := f2.size; have Y2 := (Ext.refl Q w1.drew).trans (Ext.of_below f2))
      | (go_at_call 74; (with_reducible refine (productB_any base g gv s b Q oz true _ _ z (lcomb 2147483646 x y) w2 (BB.out.below f2) (Hz.out.ext Y2) (NewL.out (NewL.made t2 (Nat.le_refl _) (fun k q => by have := LQ.out k q; have := XX.out.size; omega))) nz (Nat.le_trans (lcomb_len _ _ _) (by omega)) i0 i1 nh nc nb).mono ?_); rintro e w3 ⟨u3, Q3, rfl, B3, t3, X3⟩; obtain ⟨p3, k3, rfl, l3, b3⟩ := t3.shape; have z3 := X3.size; have Y3 := Y2.trans X3)
      | (go_at_call 73; (with_reducible refine (plus_any _ _ _ _ y _ _ _ _ (bVar s b) w3 (OutL.read (Hy.out.ext Y3)) (Nat.le_refl _) (NewL.read t3) (Nat.le_refl _)).mono ?_); rintro e w4 ⟨u4, rfl, f4, t4⟩; obtain ⟨p4, k4, rfl, l4, b4⟩ := t4.shape; have z4 := f4.size; have Y4 := Y3.trans (Ext.of_below f4); obtain ⟨cR9, fR9, nR9⟩ := K1.out _ _ Y4; have lR : w.heap.size + 1 + 1 + 1 < w4.heap.size := World.block_lt_of_cell? _ _ cR9))
  have XF := XX.out.trans Y4
  go_wp2_with fail
  have N4 : NewL w3.heap.size Q3 w4 (.slice p4 (lcomb 1 y (bVar s b)).length k4) (lcomb 1 y (bVar s b)) := NewL.made t4 (Nat.le_refl _) (fun k q => B3.lim k q)
  exact bodyPost_ret (v := .agg #[.slice p4 (lcomb 1 y (bVar s b)).length k4]) (by simp [results, Try.results38, go_sem, cR9]) rfl (RetV.of rfl rfl ((B3.below f4).boxed nR9) (lin_store (lo := w3.heap.size) N4 (by have := XX.out.size; have := Y3.size; omega) (by have := XX.out.size; have := Y3.size; omega)) (ext_boxed XF (by omega)))

def xorB (s : SysC) (b : Bd) (x y : List T) : Bd := mulB s b x y
def xorBZ (s : SysC) (b : Bd) (x y : List T) : List T := lcomb 2147483646 (lcomb 1 x y) (lcomb 2 [] (bVar s b))
set_option maxRecDepth 100000 in
set_option maxHeartbeats 6400000 in
theorem xorB_any (base g : Nat) (gv : Gv) (s : SysC) (b : Bd) (Q : Nat → Prop) (ox : Bool) (vx : Value) (x : List T) (oy : Bool) (vy : Value) (y : List T) (w : World) (B : Bld base g gv s b Q w) (tx : OutL ox Q w vx x) (ty : OutL oy Q w vy y)
    (nx : x.length ≤ 1048576) (ny : y.length ≤ 1048576) (i0 : 0 ≤ s.ins) (i1 : s.ins ≤ 100) (nh : s.hints.length ≤ 1048576) (nc : s.cons.length ≤ 1048576) (nb : b.n + 1 ≤ 1000000) :
    Calls Try.prog 40 #[.pointer (some ⟨g, 0, none⟩), .agg #[vx], .agg #[vy]] w (RetV base g gv s (xorB s b x y) (xorBZ s b x y) Q w) := by
  obtain ⟨ax, kx, rfl, lx, mx⟩ := tx.shape
  obtain ⟨ay, ky, rfl, ly, my⟩ := ty.shape
  have LQ := Lib.hid B.lim
  have NQ : Hid (∀ i, w.heap.size ≤ i → ¬ Q i) := Lib.hid fun i hi q => by have := LQ.out i q; omega
  go_enter Try.func40, Try.ntmps40
  go_wp2_with fail
  refine name_wp fun w1 hw1 => ?_
  have e1 : Below w.heap.size w w1 := by rw [hw1]; (repeat (with_reducible first | exact bR _ _ | assumption | refine bD ?_ | refine bN ?_ _ | refine bA ?_ _ | refine bS ?_ _))
  have z1 : w.heap.size + 3 ≤ w1.heap.size := by rw [hw1]; simp
  have cx1 : w1.cell? ⟨w.heap.size, 0, none⟩ = some (.slice ax x.length kx) := by rw [hw1]; first | (simp; done) | go_simp
  have cy1 : w1.cell? ⟨w.heap.size + 1, 0, none⟩ = some (.slice ay y.length ky) := by rw [hw1]; first | (simp; done) | go_simp
  have cR1 : w1.cell? ⟨w.heap.size + 1 + 1, 0, none⟩ = some (.slice none 0 0) := by rw [hw1]; first | (simp; done) | go_simp
  have fR1 : w1.frozen? ⟨w.heap.size + 1 + 1, 0, none⟩ = false := by rw [hw1]; first | (simp; done) | go_simp
  clear hw1
  generalize hd : w1.drew = wd
  have ed : Below w1.heap.size w1 wd := by rw [← hd]; exact (Below.refl _ _).drew
  have zd := ed.size
  have e0 : Below w.heap.size w wd := e1.trans (ed.mono (by omega))
  have X1 : Ext Q Q w wd := .of_below e0
  have cx := cell_keep ed cx1
  have rx := tx.ext X1
  have cy := cell_keep ed cy1
  have ry := ty.ext X1
  have cR := cell_keep ed cR1
  have fR : wd.frozen? ⟨w.heap.size + 1 + 1, 0, none⟩ = false := (ed.frozen (p := ⟨w.heap.size + 1 + 1, 0, none⟩) (show w.heap.size + 1 + 1 < w1.heap.size by omega)).trans fR1
  have K0 : Hid (∀ Q' w', Ext Q Q' wd w' → w'.cell? ⟨w.heap.size, 0, none⟩ = some (.slice ax x.length kx) ∧ w'.cell? ⟨w.heap.size + 1, 0, none⟩ = some (.slice ay y.length ky)) := Lib.hid fun Q' w' h => ⟨(h.cell (by omega) (NQ.out _ (by omega)) 0).trans cx, (h.cell (by omega) (NQ.out _ (by omega)) 0).trans cy⟩
  have K1 : Hid (∀ Q' w', Ext Q Q' wd w' → w'.cell? ⟨w.heap.size + 1 + 1, 0, none⟩ = some (.slice none 0 0) ∧ w'.frozen? ⟨w.heap.size + 1 + 1, 0, none⟩ = false ∧ ¬ Q' (w.heap.size + 1 + 1)) := Lib.hid fun Q' w' h => ⟨(h.cell (by omega) (NQ.out _ (by omega)) 0).trans cR, (h.frozen (by omega) (NQ.out _ (by omega)) 0).trans fR, h.not (by omega) (NQ.out _ (by omega))⟩
  have BB := Lib.hid (B.below e0)
  have XX := Lib.hid X1
  have Hx := Lib.hid rx
  have Hy := Lib.hid ry
  clear e1 ed cR fR cR1 fR1 X1 B cx1 cx rx tx cy1 cy ry ty
  subst hd
  go_region_held3 (fun w' => w'.cell? ⟨w.heap.size, 0, none⟩ = some (.slice ax x.length kx) ∧ w'.cell? ⟨w.heap.size + 1, 0, none⟩ = some (.slice ay y.length ky)) (first | exact K0.out _ _ (Ext.refl _ _) | exact K0.out _ _ Y2 | exact K0.out _ _ Y3 | exact K0.out _ _ Y4 | exact K0.out _ _ Y5 | (have hk := K0.out _ _ Y5; exact ⟨cell_oth (by omega) hk.1, cell_oth (by omega) hk.2⟩))
    (first
      | (go_at_call 73; (with_reducible refine (plus_any _ _ _ _ x _ _ _ _ y _ (OutL.read Hx.out) (Nat.le_refl _) (OutL.read Hy.out) (Nat.le_refl _)).mono ?_); rintro e w2 ⟨u2, rfl, f2, t2⟩; obtain ⟨p2, k2, rfl, l2, b2⟩ := t2.shape; have z2 := f2.size; have Y2 := (Ext.refl Q w1.drew).trans (Ext.of_below f2))
      | (go_at_call 74; (with_reducible refine (productB_any base g gv s b Q ox oy _ _ x y w2 (BB.out.below f2) (Hx.out.ext Y2) (Hy.out.ext Y2) nx ny i0 i1 nh nc nb).mono ?_); rintro e w3 ⟨u3, Q3, rfl, B3, t3, X3⟩; obtain ⟨p3, k3, rfl, l3, b3⟩ := t3.shape; have z3 := X3.size; have Y3 := Y2.trans X3)
      | (go_at_call 75; (with_reducible refine (times_any _ _ _ _ (bVar s b) 2 w3 (NewL.read t3) (Nat.le_refl _) (by omega) (by omega)).mono ?_); rintro e w4 ⟨u4, rfl, f4, t4⟩; obtain ⟨p4, k4, rfl, l4, b4⟩ := t4.shape; have z4 := f4.size; have Y4 := Y3.trans (Ext.of_below f4))
      | (go_at_call 63; (with_reducible refine (linMinus_any _ _ _ _ (lcomb 1 x y) _ _ _ _ (lcomb 2 [] (bVar s b)) w4 (OutL.read (OutL.ext (Q := Q) (NewL.out (NewL.made (base := w1.drew.heap.size) t2 (Nat.le_refl _) (fun k q => by have := LQ.out k q; have := XX.out.size; omega))) (X3.trans (Ext.of_below f4)))) (Nat.le_refl _) t4 (Nat.le_refl _)).mono ?_); rintro e w5 ⟨u5, rfl, f5, t5⟩; obtain ⟨p5, k5, rfl, l5, b5⟩ := t5.shape; have z5 := f5.size; have Y5 := Y4.trans (Ext.of_below f5); obtain ⟨cR9, fR9, nR9⟩ := K1.out _ _ Y5; have lR : w.heap.size + 1 + 1 < w5.heap.size := World.block_lt_of_cell? _ _ cR9))
  have XF := XX.out.trans Y5
  go_wp2_with fail
  have N5 : NewL w4.heap.size Q3 w5 (.slice p5 (xorBZ s b x y).length k5) (xorBZ s b x y) := NewL.made t5 (Nat.le_refl _) (fun k q => (B3.below f4).lim k q)
  exact bodyPost_ret (v := .agg #[.slice p5 (xorBZ s b x y).length k5]) (by simp [results, Try.results40, go_sem, cR9, xorBZ]) rfl (RetV.of rfl rfl (((B3.below f4).below f5).boxed nR9) (lin_store (lo := w4.heap.size) N5 (by have := XX.out.size; have := Y4.size; omega) (by have := XX.out.size; have := Y4.size; omega)) (ext_boxed XF (by omega)))
end Go.Proofs.Ytghjcedhoeoiiaa.L
