/- The model's AddMux, AddXor, AddEq, AddBool (written by tools/gen/mdone.py). -/
import Derived.Test.YtfkffadpnhfiaaaB15
import Derived.Test.YtfkffadpnhfiaaaMGate2
import Derived.Test.YtfkffadpnhfiaaaMAddS
import Derived.Deep.DeepCutAuto
namespace Go.Proofs.Ytfkffadpnhfiaaa.L
open Go.RowKit Go.Proofs.Ytfkffadpnhfiaaa.S
set_option linter.unusedVariables false
set_option linter.unusedSimpArgs false

set_option maxRecDepth 100000 in
set_option maxHeartbeats 3200000 in
theorem addMux_spec (o l h vi vo vh vc) (s : SysC) (oz lz hz vz) (z : List T) (ox lx hx vx) (x : List T) (oy ly hy vy) (y : List T) (w : World) (ts : SysR o l h w vi vo vh vc s) (hh : h ≤ w.heap.size) (sm : Small s) (tz : Terms oz lz hz w vz z) (hhz : hz ≤ w.heap.size) (nz : z.length ≤ 1048576) (tx : Terms ox lx hx w vx x) (hhx : hx ≤ w.heap.size) (nx : x.length ≤ 1048576) (ty : Terms oy ly hy w vy y) (hhy : hy ≤ w.heap.size) (ny : y.length ≤ 1048576)
    (b : Bool) (Hb : Hid (b = mayL s [z, x, y])) (ok : Bool) (r : SysC) (v : List T) (Ho : Hid (ok = (b && sysOk (muxS s z x y)))) (Hr : Hid (r = if b = true then (if sysOk (muxS s z x y) = true then muxS s z x y else s) else sys0)) (Hv : Hid (v = if (b && sysOk (muxS s z x y)) = true then muxZ s y else [])) :
    Calls Try.prog 33 #[.agg #[vi, vo, vh, vc], .agg #[vz], .agg #[vx], .agg #[vy]] w (ExtL ok r v w) := by
  obtain ⟨ao, ko, ah, kh, ac, kc, rfl, rfl, rfl, rfl, lo, bo, lh, bh, lc, bc, fi⟩ := id ts.shape
  obtain ⟨az, kz, rfl, qz, mbz⟩ := tz.shape
  obtain ⟨ax, kx, rfl, qx, mbx⟩ := tx.shape
  obtain ⟨ay, ky, rfl, qy, mby⟩ := ty.shape
  go_enter Try.func33, Try.ntmps33
  go_wp2_with fail
  refine name_call fun w1 hw1 => ?_
  have e1 : Below w.heap.size w w1 := by rw [hw1]; (repeat (with_reducible first | exact bR _ _ | assumption | refine bD ?_ | refine bN ?_ _ | refine bA ?_ _ | refine bS ?_ _))
  have z1 : w.heap.size + 7 ≤ w1.heap.size := by rw [hw1]; simp
  have BS : Box4 w1 w.heap.size (.int .i64 s.ins) (.slice ao s.outs.length ko) (.slice ah s.hints.length kh) (.slice ac s.cons.length kc) := ⟨by rw [hw1]; first | (simp; done) | go_simp, by rw [hw1]; first | (simp; done) | go_simp, by rw [hw1]; first | (simp; done) | go_simp, by rw [hw1]; first | (simp; done) | go_simp⟩
  have cz : w1.cell? ⟨w.heap.size + 1, 0, none⟩ = some (.slice az z.length kz) := by rw [hw1]; first | (simp; done) | go_simp
  have cx : w1.cell? ⟨w.heap.size + 1 + 1, 0, none⟩ = some (.slice ax x.length kx) := by rw [hw1]; first | (simp; done) | go_simp
  have cy : w1.cell? ⟨w.heap.size + 1 + 1 + 1, 0, none⟩ = some (.slice ay y.length ky) := by rw [hw1]; first | (simp; done) | go_simp
  have BR : Box4 w1 (w.heap.size + 1 + 1 + 1 + 1) (.int .i64 0) (.slice none 0 0) (.slice none 0 0) (.slice none 0 0) := ⟨by rw [hw1]; first | (simp; done) | go_simp, by rw [hw1]; first | (simp; done) | go_simp, by rw [hw1]; first | (simp; done) | go_simp, by rw [hw1]; first | (simp; done) | go_simp⟩
  have FR : Free4 w1 (w.heap.size + 1 + 1 + 1 + 1) := ⟨by rw [hw1]; first | (simp; done) | go_simp, by rw [hw1]; first | (simp; done) | go_simp, by rw [hw1]; first | (simp; done) | go_simp, by rw [hw1]; first | (simp; done) | go_simp⟩
  have cL : w1.cell? ⟨w.heap.size + 1 + 1 + 1 + 1 + 1, 0, none⟩ = some (.slice none 0 0) := by rw [hw1]; first | (simp; done) | go_simp
  have fL : w1.frozen? ⟨w.heap.size + 1 + 1 + 1 + 1 + 1, 0, none⟩ = false := by rw [hw1]; first | (simp; done) | go_simp
  have ez : w1.cell? ⟨w.heap.size + 1 + 1 + 1 + 1 + 1 + 1, 0, none⟩ = some (.slice az z.length kz) := by rw [hw1]; first | (simp; done) | go_simp
  have ex : w1.cell? ⟨w.heap.size + 1 + 1 + 1 + 1 + 1 + 1, 1, none⟩ = some (.slice ax x.length kx) := by rw [hw1]; first | (simp; done) | go_simp
  have ey : w1.cell? ⟨w.heap.size + 1 + 1 + 1 + 1 + 1 + 1, 2, none⟩ = some (.slice ay y.length ky) := by rw [hw1]; first | (simp; done) | go_simp
  clear hw1
  have uz := tz.keep e1 hhz
  have ux := tx.keep e1 hhx
  have uy := ty.keep e1 hhy
  have us := ts.keep e1 hh
  have AR : ArgsL w1 (w.heap.size + 1 + 1 + 1 + 1 + 1 + 1) [z, x, y] := ⟨by omega, fun j hj => by
    match j, hj with
    | 0, _ => exact ⟨_, ez, (OutL.arg (Q := fun _ => False) uz (Nat.le_trans hhz e1.size) (Nat.le_refl _) (fun _ q => q.elim)).read⟩
    | 1, _ => exact ⟨_, ex, (OutL.arg (Q := fun _ => False) ux (Nat.le_trans hhx e1.size) (Nat.le_refl _) (fun _ q => q.elim)).read⟩
    | 2, _ => exact ⟨_, ey, (OutL.arg (Q := fun _ => False) uy (Nat.le_trans hhy e1.size) (Nat.le_refl _) (fun _ q => q.elim)).read⟩⟩
  have gz : TermsF oz (fun k => k < w.heap.size) w1 (.slice az z.length kz) z := uz.toF (fun k h1 h2 => by omega)
  have gx : TermsF ox (fun k => k < w.heap.size) w1 (.slice ax x.length kx) x := ux.toF (fun k h1 h2 => by omega)
  have gy : TermsF oy (fun k => k < w.heap.size) w1 (.slice ay y.length ky) y := uy.toF (fun k h1 h2 => by omega)
  refine (may_spec o l h _ _ _ _ s _ 3 [z, x, y] w1 us (Nat.le_trans hh e1.size) sm AR (by simp) b Hb).mono ?_; rintro e w2 ⟨rfl, f2⟩
  have z2 := f2.size
  cases b
  · have E1 : Hid (ok = false) := Lib.hid Ho.out
    have E2 : Hid (r = sys0) := Lib.hid Hr.out
    have E3 : Hid (v = []) := Lib.hid Hv.out
    have BR2 := BR.keep f2 (by omega)
    obtain ⟨y0, y1, y2, y3⟩ := FR.keep f2 (by omega)
    obtain ⟨r0, r1, r2, r3⟩ := id BR2
    have cL2 := cell_keep f2 cL
    have fL2 := (f2.frozen (p := ⟨w.heap.size + 1 + 1 + 1 + 1 + 1, 0, none⟩) (show w.heap.size + 1 + 1 + 1 + 1 + 1 < w1.heap.size by omega)).trans fL
    have lA : w.heap.size + 1 + 1 + 1 + 1 < w2.heap.size := by omega
    have e2 : Below w.heap.size w w2 := e1.trans (f2.mono (by omega))
    have lB : w.heap.size + 1 + 1 + 1 + 1 + 1 < w2.heap.size := by omega
    obtain ⟨q0, q1, q2, q3⟩ := BR2.copied5 (b' := w.heap.size + 1 + 1 + 1 + 1 + 1) (by omega) (.int .i64 0) (.slice none 0 0) (.slice none 0 0) (.slice none 0 0) (.slice none 0 0)
    have q4 := cell_copied5 (b := w.heap.size + 1 + 1 + 1 + 1) cL2 (by omega) (.int .i64 0) (.slice none 0 0) (.slice none 0 0) (.slice none 0 0) (.slice none 0 0)
    clear BS BR FR cL fL AR us ts uz ez cz tz gz ux ex cx tx gx uy ey cy ty gy
    go_wp2_with fail
    exact bodyPost_ret (v := .tuple #[.agg #[.int .i64 0, .slice none 0 0, .slice none 0 0, .slice none 0 0], .agg #[.slice none 0 0], .bool false]) (by simp [results, Try.results33, go_sem, q0, q1, q2, q3, q4]) rfl (ExtL.of E1.out E2.out E3.out (by (repeat (with_reducible first | exact bR _ _ | assumption | refine bD ?_ | refine bN ?_ _ | refine bA ?_ _ | refine bS ?_ _))) (SysF.zero _) (TermsF.nil _ (fun _ => False) _) (fun _ q => q.elim) (fun _ q => q.elim))
  have hok := mayL_ok' Hb.out.symm
  have lim := limB_facts (sysOk_limB hok)
  have BS2 := BS.keep f2 (by omega)
  obtain ⟨s0, s1, s2, s3⟩ := id BS2
  clear AR ez ex ey
  have okz := linW_ok ((mayL_in Hb.out.symm).2 z (by simp))
  have iz := KIn.of_ok okz
  have jz := linOk_length okz
  have okx := linW_ok ((mayL_in Hb.out.symm).2 x (by simp))
  have ix := KIn.of_ok okx
  have jx := linOk_length okx
  have oky := linW_ok ((mayL_in Hb.out.symm).2 y (by simp))
  have iy := KIn.of_ok oky
  have jy := linOk_length oky
  go_wp2_with fail
  refine (l3own_any o l h _ _ _ _ s w2 (us.keep f2 (by omega)) (by omega) sm).mono ?_; rintro e w3 ⟨ui, uo, uh, uc, rfl, f3, own⟩
  obtain ⟨xo, jo, xh, jh, xc, jc, rfl, rfl, rfl, rfl, -⟩ := (own.sysF (Nat.le_refl _)).shape
  have z3 := f3.size
  have zo : w2.heap.size + 3 ≤ w3.heap.size := by obtain ⟨-, -, m1, m2, p1, p2, p3, -⟩ := own; omega
  have f13 : Below w1.heap.size w1 w3 := f2.trans (f3.mono (by omega))
  have cz3 := cell_keep f13 cz
  have lz3 : w.heap.size + 1 < w3.heap.size := by omega
  have cx3 := cell_keep f13 cx
  have lx3 : w.heap.size + 1 + 1 < w3.heap.size := by omega
  have cy3 := cell_keep f13 cy
  have ly3 : w.heap.size + 1 + 1 + 1 < w3.heap.size := by omega
  clear s0 s1 s2 s3
  go_wp2_with fail
  refine name_call fun w4 hw4 => ?_
  have e4 : Below w3.heap.size w3 w4 := by rw [hw4]; (repeat (with_reducible first | exact bR _ _ | assumption | refine bD ?_ | refine bN ?_ _ | refine bA ?_ _ | refine bS ?_ _))
  have z4 : w3.heap.size + 1 ≤ w4.heap.size := by rw [hw4]; simp
  have BX : Box4 w4 w3.heap.size (.int .i64 s.ins) (.slice xo s.outs.length jo) (.slice xh s.hints.length jh) (.slice xc s.cons.length jc) := ⟨by rw [hw4]; first | (simp; done) | go_simp, by rw [hw4]; first | (simp; done) | go_simp, by rw [hw4]; first | (simp; done) | go_simp, by rw [hw4]; first | (simp; done) | go_simp⟩
  have FX : Free4 w4 w3.heap.size := ⟨by rw [hw4]; first | (simp; done) | go_simp, by rw [hw4]; first | (simp; done) | go_simp, by rw [hw4]; first | (simp; done) | go_simp, by rw [hw4]; first | (simp; done) | go_simp⟩
  clear hw4
  have f14 : Below w1.heap.size w1 w4 := f13.trans (e4.mono (by omega))
  obtain ⟨Q, M4, hQ⟩ := Mdl.start (own.agree4 e4) (Nat.le_refl _) (by omega) BX FX
  have HQ := Lib.hid hQ
  have Gz := gz.agree (SameF.of_below f14 (fun k q => by have := q; omega))
  have Gx := gx.agree (SameF.of_below f14 (fun k q => by have := q; omega))
  have Gy := gy.agree (SameF.of_below f14 (fun k q => by have := q; omega))
  have hGx : ∀ k, k < w.heap.size → k < w4.heap.size ∧ ¬ Q k := fun k q => ⟨by omega, fun r => by have := HQ.out k r; omega⟩
  refine (mux_spec _ w3.heap.size s Q _ (fun k => k < w.heap.size) oz _ z ox _ x oy _ y w4 M4 (by omega) Gz Gx Gy hGx ix iy (by omega) (by omega) (by omega) lim.1 lim.2.1 (by omega) (by omega)).mono ?_; rintro e w5 ⟨u, Q5, A5, rfl, M5, N5, X5, hA5⟩
  obtain ⟨p, kp, rfl, lp, bp⟩ := N5.shape
  have z5 := X5.size
  have f25 : Below (w2.heap.size + 3) w4 w5 := X5.only.below HQ.out (by omega)
  have f15 : Below w1.heap.size w1 w5 := f14.trans (f25.mono (by omega))
  obtain ⟨hg, hq, fi5, fr5, vo, vh, vc, bx5, R1, F1, R2, F2, FO, rO, gr1, gr2, q1, q2, q3, q4⟩ := M5
  obtain ⟨Xo, Ko, rfl, -⟩ := id rO
  obtain ⟨Xh, Kh, rfl, -⟩ := gr1.shape
  obtain ⟨Xc, Kc, rfl, -⟩ := gr2.shape
  obtain ⟨t0, t1', t2', t3⟩ := id bx5
  obtain ⟨s0, s1, s2, s3⟩ := BS.keep f15 (by omega)
  have lS5 : w.heap.size < w5.heap.size := by omega
  have lG5 : w3.heap.size < w5.heap.size := by omega
  have RD : SysR false 0 w5.heap.size w5 (.int .i64 (muxS s z x y).ins) (.slice Xo (muxS s z x y).outs.length Ko) (.slice Xh (muxS s z x y).hints.length Kh) (.slice Xc (muxS s z x y).cons.length Kc) (muxS s z x y) :=
    ⟨rfl, fi5, 0, _, 0, _, 0, _, Nat.le_refl _, Nat.le_refl _, Nat.le_refl _, Nat.le_refl _, Nat.le_refl _, Nat.le_refl _, fun h => (by cases h), rO.read, gr1.read, gr2.read⟩
  have ND := N5.read
  clear hq fr5 bx5 rO gr1 gr2 q1 q2 q3 q4 X5 M4 BX FX own cz3 Gz gz cx3 Gx gx cy3 Gy gy
  go_wp2_with fail
  refine name_call fun w6 hw6 => ?_
  have e6 : Below w5.heap.size w5 w6 := by rw [hw6]; (repeat (with_reducible first | exact bR _ _ | assumption | refine bD ?_ | refine bN ?_ _ | refine bA ?_ _ | refine bS ?_ _))
  clear hw6
  have z6 := e6.size
  have f16 : Below w1.heap.size w1 w6 := f15.trans (e6.mono (by omega))
  refine (done_spec o l h _ _ _ _ s false 0 w5.heap.size _ _ _ _ (muxS s z x y) false 0 w5.heap.size _ (muxZ s y) w6 (us.keep f16 (by omega)) (by omega) sm (RD.keep e6 (Nat.le_refl _)) z6 (small_mul sm hok nz (Nat.le_trans (mrg_length _ _ _) (by omega))) (ND.keep e6 (Nat.le_refl _)) z6 (by unfold muxZ; exact Nat.le_trans (mrg_length _ _ _) (by simp [sVar]; omega)) ok r v (Lib.hid Ho.out) (Lib.hid Hr.out) (Lib.hid Hv.out)).mono ?_; rintro e w7 ⟨ui, uo, uh, uc, u, F, G, rfl, f7, S7, T7, hF, hG⟩
  obtain ⟨yo, no', yh, nh', yc, nc', rfl, rfl, rfl, rfl, -⟩ := id S7.shape
  obtain ⟨p7, k7, rfl, lp7, bp7⟩ := T7.shape
  have z7 := f7.size
  have f17 : Below w1.heap.size w1 w7 := f16.trans (f7.mono (by omega))
  have BR2 := BR.keep f17 (by omega)
  obtain ⟨y0, y1, y2, y3⟩ := FR.keep f17 (by omega)
  obtain ⟨r0, r1, r2, r3⟩ := id BR2
  have cL2 := cell_keep f17 cL
  have fL2 := (f17.frozen (p := ⟨w.heap.size + 1 + 1 + 1 + 1 + 1, 0, none⟩) (show w.heap.size + 1 + 1 + 1 + 1 + 1 < w1.heap.size by omega)).trans fL
  have lA : w.heap.size + 1 + 1 + 1 + 1 < w7.heap.size := by omega
  have lB : w.heap.size + 1 + 1 + 1 + 1 + 1 < w7.heap.size := by omega
  have e7 : Below w.heap.size w w7 := e1.trans (f17.mono (by omega))
  have hF1 : ¬ F (w.heap.size + 1 + 1 + 1 + 1) := fun q => by have := hF _ q; omega
  have hF2 : ¬ F (w.heap.size + 1 + 1 + 1 + 1 + 1) := fun q => by have := hF _ q; omega
  have hG1 : ¬ G (w.heap.size + 1 + 1 + 1 + 1) := fun q => by have := (hG _ q).1; omega
  have hG2 : ¬ G (w.heap.size + 1 + 1 + 1 + 1 + 1) := fun q => by have := (hG _ q).1; omega
  obtain ⟨q0, q1, q2, q3⟩ := BR2.copied5 (b' := w.heap.size + 1 + 1 + 1 + 1 + 1) (by omega) (.int .i64 r.ins) (.slice yo r.outs.length no') (.slice yh r.hints.length nh') (.slice yc r.cons.length nc') (.slice p7 v.length k7)
  have q4 := cell_copied5 (b := w.heap.size + 1 + 1 + 1 + 1) cL2 (by omega) (.int .i64 r.ins) (.slice yo r.outs.length no') (.slice yh r.hints.length nh') (.slice yc r.cons.length nc') (.slice p7 v.length k7)
  clear BS BR FR cL fL us ts RD ND s0 s1 s2 s3 BS2 uz cz tz ux cx tx uy cy ty
  go_wp2_with fail
  exact bodyPost_ret (v := .tuple #[.agg #[.int .i64 r.ins, .slice yo r.outs.length no', .slice yh r.hints.length nh', .slice yc r.cons.length nc'], .agg #[.slice p7 v.length k7], .bool ok]) (by simp [results, Try.results33, go_sem, q0, q1, q2, q3, q4]) rfl (ExtL.of rfl rfl rfl (by (repeat (with_reducible first | exact bR _ _ | assumption | refine bD ?_ | refine bN ?_ _ | refine bA ?_ _ | refine bS ?_ _))) (S7.agree (sameF_sets5 _ _ _ _ _ _ hF1 hF2) (by simp)) (T7.agree (sameF_sets5 _ _ _ _ _ _ hG1 hG2)) (fun k q => by have := hF k q; omega) (fun k q => by have := hG k q; simp; exact ⟨by omega, this.2⟩))
set_option maxRecDepth 100000 in
set_option maxHeartbeats 3200000 in
theorem addXor_spec (o l h vi vo vh vc) (s : SysC) (ox lx hx vx) (x : List T) (oy ly hy vy) (y : List T) (w : World) (ts : SysR o l h w vi vo vh vc s) (hh : h ≤ w.heap.size) (sm : Small s) (tx : Terms ox lx hx w vx x) (hhx : hx ≤ w.heap.size) (nx : x.length ≤ 1048576) (ty : Terms oy ly hy w vy y) (hhy : hy ≤ w.heap.size) (ny : y.length ≤ 1048576)
    (b : Bool) (Hb : Hid (b = mayL s [x, y])) (ok : Bool) (r : SysC) (v : List T) (Ho : Hid (ok = (b && sysOk (mulS s x y)))) (Hr : Hid (r = if b = true then (if sysOk (mulS s x y) = true then mulS s x y else s) else sys0)) (Hv : Hid (v = if (b && sysOk (mulS s x y)) = true then xorZ s x y else [])) :
    Calls Try.prog 35 #[.agg #[vi, vo, vh, vc], .agg #[vx], .agg #[vy]] w (ExtL ok r v w) := by
  obtain ⟨ao, ko, ah, kh, ac, kc, rfl, rfl, rfl, rfl, lo, bo, lh, bh, lc, bc, fi⟩ := id ts.shape
  obtain ⟨ax, kx, rfl, qx, mbx⟩ := tx.shape
  obtain ⟨ay, ky, rfl, qy, mby⟩ := ty.shape
  go_enter Try.func35, Try.ntmps35
  go_wp2_with fail
  refine name_call fun w1 hw1 => ?_
  have e1 : Below w.heap.size w w1 := by rw [hw1]; (repeat (with_reducible first | exact bR _ _ | assumption | refine bD ?_ | refine bN ?_ _ | refine bA ?_ _ | refine bS ?_ _))
  have z1 : w.heap.size + 6 ≤ w1.heap.size := by rw [hw1]; simp
  have BS : Box4 w1 w.heap.size (.int .i64 s.ins) (.slice ao s.outs.length ko) (.slice ah s.hints.length kh) (.slice ac s.cons.length kc) := ⟨by rw [hw1]; first | (simp; done) | go_simp, by rw [hw1]; first | (simp; done) | go_simp, by rw [hw1]; first | (simp; done) | go_simp, by rw [hw1]; first | (simp; done) | go_simp⟩
  have cx : w1.cell? ⟨w.heap.size + 1, 0, none⟩ = some (.slice ax x.length kx) := by rw [hw1]; first | (simp; done) | go_simp
  have cy : w1.cell? ⟨w.heap.size + 1 + 1, 0, none⟩ = some (.slice ay y.length ky) := by rw [hw1]; first | (simp; done) | go_simp
  have BR : Box4 w1 (w.heap.size + 1 + 1 + 1) (.int .i64 0) (.slice none 0 0) (.slice none 0 0) (.slice none 0 0) := ⟨by rw [hw1]; first | (simp; done) | go_simp, by rw [hw1]; first | (simp; done) | go_simp, by rw [hw1]; first | (simp; done) | go_simp, by rw [hw1]; first | (simp; done) | go_simp⟩
  have FR : Free4 w1 (w.heap.size + 1 + 1 + 1) := ⟨by rw [hw1]; first | (simp; done) | go_simp, by rw [hw1]; first | (simp; done) | go_simp, by rw [hw1]; first | (simp; done) | go_simp, by rw [hw1]; first | (simp; done) | go_simp⟩
  have cL : w1.cell? ⟨w.heap.size + 1 + 1 + 1 + 1, 0, none⟩ = some (.slice none 0 0) := by rw [hw1]; first | (simp; done) | go_simp
  have fL : w1.frozen? ⟨w.heap.size + 1 + 1 + 1 + 1, 0, none⟩ = false := by rw [hw1]; first | (simp; done) | go_simp
  have ex : w1.cell? ⟨w.heap.size + 1 + 1 + 1 + 1 + 1, 0, none⟩ = some (.slice ax x.length kx) := by rw [hw1]; first | (simp; done) | go_simp
  have ey : w1.cell? ⟨w.heap.size + 1 + 1 + 1 + 1 + 1, 1, none⟩ = some (.slice ay y.length ky) := by rw [hw1]; first | (simp; done) | go_simp
  clear hw1
  have ux := tx.keep e1 hhx
  have uy := ty.keep e1 hhy
  have us := ts.keep e1 hh
  have AR : ArgsL w1 (w.heap.size + 1 + 1 + 1 + 1 + 1) [x, y] := ⟨by omega, fun j hj => by
    match j, hj with
    | 0, _ => exact ⟨_, ex, (OutL.arg (Q := fun _ => False) ux (Nat.le_trans hhx e1.size) (Nat.le_refl _) (fun _ q => q.elim)).read⟩
    | 1, _ => exact ⟨_, ey, (OutL.arg (Q := fun _ => False) uy (Nat.le_trans hhy e1.size) (Nat.le_refl _) (fun _ q => q.elim)).read⟩⟩
  have gx : TermsF ox (fun k => k < w.heap.size) w1 (.slice ax x.length kx) x := ux.toF (fun k h1 h2 => by omega)
  have gy : TermsF oy (fun k => k < w.heap.size) w1 (.slice ay y.length ky) y := uy.toF (fun k h1 h2 => by omega)
  refine (may_spec o l h _ _ _ _ s _ 2 [x, y] w1 us (Nat.le_trans hh e1.size) sm AR (by simp) b Hb).mono ?_; rintro e w2 ⟨rfl, f2⟩
  have z2 := f2.size
  cases b
  · have E1 : Hid (ok = false) := Lib.hid Ho.out
    have E2 : Hid (r = sys0) := Lib.hid Hr.out
    have E3 : Hid (v = []) := Lib.hid Hv.out
    have BR2 := BR.keep f2 (by omega)
    obtain ⟨y0, y1, y2, y3⟩ := FR.keep f2 (by omega)
    obtain ⟨r0, r1, r2, r3⟩ := id BR2
    have cL2 := cell_keep f2 cL
    have fL2 := (f2.frozen (p := ⟨w.heap.size + 1 + 1 + 1 + 1, 0, none⟩) (show w.heap.size + 1 + 1 + 1 + 1 < w1.heap.size by omega)).trans fL
    have lA : w.heap.size + 1 + 1 + 1 < w2.heap.size := by omega
    have e2 : Below w.heap.size w w2 := e1.trans (f2.mono (by omega))
    have lB : w.heap.size + 1 + 1 + 1 + 1 < w2.heap.size := by omega
    obtain ⟨q0, q1, q2, q3⟩ := BR2.copied5 (b' := w.heap.size + 1 + 1 + 1 + 1) (by omega) (.int .i64 0) (.slice none 0 0) (.slice none 0 0) (.slice none 0 0) (.slice none 0 0)
    have q4 := cell_copied5 (b := w.heap.size + 1 + 1 + 1) cL2 (by omega) (.int .i64 0) (.slice none 0 0) (.slice none 0 0) (.slice none 0 0) (.slice none 0 0)
    clear BS BR FR cL fL AR us ts ux ex cx tx gx uy ey cy ty gy
    go_wp2_with fail
    exact bodyPost_ret (v := .tuple #[.agg #[.int .i64 0, .slice none 0 0, .slice none 0 0, .slice none 0 0], .agg #[.slice none 0 0], .bool false]) (by simp [results, Try.results35, go_sem, q0, q1, q2, q3, q4]) rfl (ExtL.of E1.out E2.out E3.out (by (repeat (with_reducible first | exact bR _ _ | assumption | refine bD ?_ | refine bN ?_ _ | refine bA ?_ _ | refine bS ?_ _))) (SysF.zero _) (TermsF.nil _ (fun _ => False) _) (fun _ q => q.elim) (fun _ q => q.elim))
  have hok := mayL_ok' Hb.out.symm
  have lim := limB_facts (sysOk_limB hok)
  have BS2 := BS.keep f2 (by omega)
  obtain ⟨s0, s1, s2, s3⟩ := id BS2
  clear AR ex ey
  have okx := linW_ok ((mayL_in Hb.out.symm).2 x (by simp))
  have ix := KIn.of_ok okx
  have jx := linOk_length okx
  have oky := linW_ok ((mayL_in Hb.out.symm).2 y (by simp))
  have iy := KIn.of_ok oky
  have jy := linOk_length oky
  go_wp2_with fail
  refine (l3own_any o l h _ _ _ _ s w2 (us.keep f2 (by omega)) (by omega) sm).mono ?_; rintro e w3 ⟨ui, uo, uh, uc, rfl, f3, own⟩
  obtain ⟨xo, jo, xh, jh, xc, jc, rfl, rfl, rfl, rfl, -⟩ := (own.sysF (Nat.le_refl _)).shape
  have z3 := f3.size
  have zo : w2.heap.size + 3 ≤ w3.heap.size := by obtain ⟨-, -, m1, m2, p1, p2, p3, -⟩ := own; omega
  have f13 : Below w1.heap.size w1 w3 := f2.trans (f3.mono (by omega))
  have cx3 := cell_keep f13 cx
  have lx3 : w.heap.size + 1 < w3.heap.size := by omega
  have cy3 := cell_keep f13 cy
  have ly3 : w.heap.size + 1 + 1 < w3.heap.size := by omega
  clear s0 s1 s2 s3
  go_wp2_with fail
  refine name_call fun w4 hw4 => ?_
  have e4 : Below w3.heap.size w3 w4 := by rw [hw4]; (repeat (with_reducible first | exact bR _ _ | assumption | refine bD ?_ | refine bN ?_ _ | refine bA ?_ _ | refine bS ?_ _))
  have z4 : w3.heap.size + 1 ≤ w4.heap.size := by rw [hw4]; simp
  have BX : Box4 w4 w3.heap.size (.int .i64 s.ins) (.slice xo s.outs.length jo) (.slice xh s.hints.length jh) (.slice xc s.cons.length jc) := ⟨by rw [hw4]; first | (simp; done) | go_simp, by rw [hw4]; first | (simp; done) | go_simp, by rw [hw4]; first | (simp; done) | go_simp, by rw [hw4]; first | (simp; done) | go_simp⟩
  have FX : Free4 w4 w3.heap.size := ⟨by rw [hw4]; first | (simp; done) | go_simp, by rw [hw4]; first | (simp; done) | go_simp, by rw [hw4]; first | (simp; done) | go_simp, by rw [hw4]; first | (simp; done) | go_simp⟩
  clear hw4
  have f14 : Below w1.heap.size w1 w4 := f13.trans (e4.mono (by omega))
  obtain ⟨Q, M4, hQ⟩ := Mdl.start (own.agree4 e4) (Nat.le_refl _) (by omega) BX FX
  have HQ := Lib.hid hQ
  have Gx := gx.agree (SameF.of_below f14 (fun k q => by have := q; omega))
  have Gy := gy.agree (SameF.of_below f14 (fun k q => by have := q; omega))
  have hGx : ∀ k, k < w.heap.size → k < w4.heap.size ∧ ¬ Q k := fun k q => ⟨by omega, fun r => by have := HQ.out k r; omega⟩
  refine (xor_spec _ w3.heap.size s Q _ (fun k => k < w.heap.size) ox _ x oy _ y w4 M4 (by omega) Gx Gy hGx ix iy (by omega) (by omega) lim.1 lim.2.1 (by omega) (by omega)).mono ?_; rintro e w5 ⟨u, Q5, A5, rfl, M5, N5, X5, hA5⟩
  obtain ⟨p, kp, rfl, lp, bp⟩ := N5.shape
  have z5 := X5.size
  have f25 : Below (w2.heap.size + 3) w4 w5 := X5.only.below HQ.out (by omega)
  have f15 : Below w1.heap.size w1 w5 := f14.trans (f25.mono (by omega))
  obtain ⟨hg, hq, fi5, fr5, vo, vh, vc, bx5, R1, F1, R2, F2, FO, rO, gr1, gr2, q1, q2, q3, q4⟩ := M5
  obtain ⟨Xo, Ko, rfl, -⟩ := id rO
  obtain ⟨Xh, Kh, rfl, -⟩ := gr1.shape
  obtain ⟨Xc, Kc, rfl, -⟩ := gr2.shape
  obtain ⟨t0, t1', t2', t3⟩ := id bx5
  obtain ⟨s0, s1, s2, s3⟩ := BS.keep f15 (by omega)
  have lS5 : w.heap.size < w5.heap.size := by omega
  have lG5 : w3.heap.size < w5.heap.size := by omega
  have RD : SysR false 0 w5.heap.size w5 (.int .i64 (mulS s x y).ins) (.slice Xo (mulS s x y).outs.length Ko) (.slice Xh (mulS s x y).hints.length Kh) (.slice Xc (mulS s x y).cons.length Kc) (mulS s x y) :=
    ⟨rfl, fi5, 0, _, 0, _, 0, _, Nat.le_refl _, Nat.le_refl _, Nat.le_refl _, Nat.le_refl _, Nat.le_refl _, Nat.le_refl _, fun h => (by cases h), rO.read, gr1.read, gr2.read⟩
  have ND := N5.read
  clear hq fr5 bx5 rO gr1 gr2 q1 q2 q3 q4 X5 M4 BX FX own cx3 Gx gx cy3 Gy gy
  go_wp2_with fail
  refine name_call fun w6 hw6 => ?_
  have e6 : Below w5.heap.size w5 w6 := by rw [hw6]; (repeat (with_reducible first | exact bR _ _ | assumption | refine bD ?_ | refine bN ?_ _ | refine bA ?_ _ | refine bS ?_ _))
  clear hw6
  have z6 := e6.size
  have f16 : Below w1.heap.size w1 w6 := f15.trans (e6.mono (by omega))
  refine (done_spec o l h _ _ _ _ s false 0 w5.heap.size _ _ _ _ (mulS s x y) false 0 w5.heap.size _ (xorZ s x y) w6 (us.keep f16 (by omega)) (by omega) sm (RD.keep e6 (Nat.le_refl _)) z6 (small_mul sm hok nx ny) (ND.keep e6 (Nat.le_refl _)) z6 (by have h1 := mrg_length 1 x y; unfold xorZ; exact Nat.le_trans (mrg_length _ _ _) (by simp [sVar]; omega)) ok r v (Lib.hid Ho.out) (Lib.hid Hr.out) (Lib.hid Hv.out)).mono ?_; rintro e w7 ⟨ui, uo, uh, uc, u, F, G, rfl, f7, S7, T7, hF, hG⟩
  obtain ⟨yo, no', yh, nh', yc, nc', rfl, rfl, rfl, rfl, -⟩ := id S7.shape
  obtain ⟨p7, k7, rfl, lp7, bp7⟩ := T7.shape
  have z7 := f7.size
  have f17 : Below w1.heap.size w1 w7 := f16.trans (f7.mono (by omega))
  have BR2 := BR.keep f17 (by omega)
  obtain ⟨y0, y1, y2, y3⟩ := FR.keep f17 (by omega)
  obtain ⟨r0, r1, r2, r3⟩ := id BR2
  have cL2 := cell_keep f17 cL
  have fL2 := (f17.frozen (p := ⟨w.heap.size + 1 + 1 + 1 + 1, 0, none⟩) (show w.heap.size + 1 + 1 + 1 + 1 < w1.heap.size by omega)).trans fL
  have lA : w.heap.size + 1 + 1 + 1 < w7.heap.size := by omega
  have lB : w.heap.size + 1 + 1 + 1 + 1 < w7.heap.size := by omega
  have e7 : Below w.heap.size w w7 := e1.trans (f17.mono (by omega))
  have hF1 : ¬ F (w.heap.size + 1 + 1 + 1) := fun q => by have := hF _ q; omega
  have hF2 : ¬ F (w.heap.size + 1 + 1 + 1 + 1) := fun q => by have := hF _ q; omega
  have hG1 : ¬ G (w.heap.size + 1 + 1 + 1) := fun q => by have := (hG _ q).1; omega
  have hG2 : ¬ G (w.heap.size + 1 + 1 + 1 + 1) := fun q => by have := (hG _ q).1; omega
  obtain ⟨q0, q1, q2, q3⟩ := BR2.copied5 (b' := w.heap.size + 1 + 1 + 1 + 1) (by omega) (.int .i64 r.ins) (.slice yo r.outs.length no') (.slice yh r.hints.length nh') (.slice yc r.cons.length nc') (.slice p7 v.length k7)
  have q4 := cell_copied5 (b := w.heap.size + 1 + 1 + 1) cL2 (by omega) (.int .i64 r.ins) (.slice yo r.outs.length no') (.slice yh r.hints.length nh') (.slice yc r.cons.length nc') (.slice p7 v.length k7)
  clear BS BR FR cL fL us ts RD ND s0 s1 s2 s3 BS2 ux cx tx uy cy ty
  go_wp2_with fail
  exact bodyPost_ret (v := .tuple #[.agg #[.int .i64 r.ins, .slice yo r.outs.length no', .slice yh r.hints.length nh', .slice yc r.cons.length nc'], .agg #[.slice p7 v.length k7], .bool ok]) (by simp [results, Try.results35, go_sem, q0, q1, q2, q3, q4]) rfl (ExtL.of rfl rfl rfl (by (repeat (with_reducible first | exact bR _ _ | assumption | refine bD ?_ | refine bN ?_ _ | refine bA ?_ _ | refine bS ?_ _))) (S7.agree (sameF_sets5 _ _ _ _ _ _ hF1 hF2) (by simp)) (T7.agree (sameF_sets5 _ _ _ _ _ _ hG1 hG2)) (fun k q => by have := hF k q; omega) (fun k q => by have := hG k q; simp; exact ⟨by omega, this.2⟩))
end Go.Proofs.Ytfkffadpnhfiaaa.L
