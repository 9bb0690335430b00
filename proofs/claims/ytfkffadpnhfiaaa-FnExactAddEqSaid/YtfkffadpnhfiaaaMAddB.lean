/- The model's AddMux, AddXor, AddEq, AddBool (written by tools/gen/mdone.py). -/
import Derived.Test.YtfkffadpnhfiaaaB15
import Derived.Test.YtfkffadpnhfiaaaMGate2
import Derived.Test.YtfkffadpnhfiaaaB19
import Derived.Test.YtfkffadpnhfiaaaMAddS
import Derived.Deep.DeepCutAuto
namespace Go.Proofs.Ytfkffadpnhfiaaa.L
open Go.RowKit Go.Proofs.Ytfkffadpnhfiaaa.S
set_option linter.unusedVariables false
set_option linter.unusedSimpArgs false

set_option maxRecDepth 100000 in
set_option maxHeartbeats 3200000 in
theorem addEq_spec (o l h vi vo vh vc) (s : SysC) (ox lx hx vx) (x : List T) (oy ly hy vy) (y : List T) (w : World) (ts : SysR o l h w vi vo vh vc s) (hh : h ≤ w.heap.size) (sm : Small s) (tx : Terms ox lx hx w vx x) (hhx : hx ≤ w.heap.size) (nx : x.length ≤ 1048576) (ty : Terms oy ly hy w vy y) (hhy : hy ≤ w.heap.size) (ny : y.length ≤ 1048576)
    (b : Bool) (Hb : Hid (b = mayL s [x, y])) (ok : Bool) (r : SysC) (Ho : Hid (ok = (b && sysOk (eqS s x y)))) (Hr : Hid (r = if b = true then (if sysOk (eqS s x y) = true then eqS s x y else s) else sys0)) :
    Calls Try.prog 24 #[.agg #[vi, vo, vh, vc], .agg #[vx], .agg #[vy]] w (ExtC ok r w) := by
  obtain ⟨ao, ko, ah, kh, ac, kc, rfl, rfl, rfl, rfl, lo, bo, lh, bh, lc, bc, fi⟩ := id ts.shape
  obtain ⟨ax, kx, rfl, qx, mbx⟩ := tx.shape
  obtain ⟨ay, ky, rfl, qy, mby⟩ := ty.shape
  go_enter Try.func24, Try.ntmps24
  go_wp2_with fail
  refine name_call fun w1 hw1 => ?_
  have e1 : Below w.heap.size w w1 := by rw [hw1]; (repeat (with_reducible first | exact bR _ _ | assumption | refine bD ?_ | refine bN ?_ _ | refine bA ?_ _ | refine bS ?_ _))
  have z1 : w.heap.size + 5 ≤ w1.heap.size := by rw [hw1]; simp
  have BS : Box4 w1 w.heap.size (.int .i64 s.ins) (.slice ao s.outs.length ko) (.slice ah s.hints.length kh) (.slice ac s.cons.length kc) := ⟨by rw [hw1]; first | (simp; done) | go_simp, by rw [hw1]; first | (simp; done) | go_simp, by rw [hw1]; first | (simp; done) | go_simp, by rw [hw1]; first | (simp; done) | go_simp⟩
  have cx : w1.cell? ⟨w.heap.size + 1, 0, none⟩ = some (.slice ax x.length kx) := by rw [hw1]; first | (simp; done) | go_simp
  have cy : w1.cell? ⟨w.heap.size + 1 + 1, 0, none⟩ = some (.slice ay y.length ky) := by rw [hw1]; first | (simp; done) | go_simp
  have BR : Box4 w1 (w.heap.size + 1 + 1 + 1) (.int .i64 0) (.slice none 0 0) (.slice none 0 0) (.slice none 0 0) := ⟨by rw [hw1]; first | (simp; done) | go_simp, by rw [hw1]; first | (simp; done) | go_simp, by rw [hw1]; first | (simp; done) | go_simp, by rw [hw1]; first | (simp; done) | go_simp⟩
  have FR : Free4 w1 (w.heap.size + 1 + 1 + 1) := ⟨by rw [hw1]; first | (simp; done) | go_simp, by rw [hw1]; first | (simp; done) | go_simp, by rw [hw1]; first | (simp; done) | go_simp, by rw [hw1]; first | (simp; done) | go_simp⟩
  have ex : w1.cell? ⟨w.heap.size + 1 + 1 + 1 + 1, 0, none⟩ = some (.slice ax x.length kx) := by rw [hw1]; first | (simp; done) | go_simp
  have ey : w1.cell? ⟨w.heap.size + 1 + 1 + 1 + 1, 1, none⟩ = some (.slice ay y.length ky) := by rw [hw1]; first | (simp; done) | go_simp
  clear hw1
  have ux := tx.keep e1 hhx
  have uy := ty.keep e1 hhy
  have us := ts.keep e1 hh
  have AR : ArgsL w1 (w.heap.size + 1 + 1 + 1 + 1) [x, y] := ⟨by omega, fun j hj => by
    match j, hj with
    | 0, _ => exact ⟨_, ex, (OutL.arg (Q := fun _ => False) ux (Nat.le_trans hhx e1.size) (Nat.le_refl _) (fun _ q => q.elim)).read⟩
    | 1, _ => exact ⟨_, ey, (OutL.arg (Q := fun _ => False) uy (Nat.le_trans hhy e1.size) (Nat.le_refl _) (fun _ q => q.elim)).read⟩⟩
  have gx : TermsF ox (fun k => k < w.heap.size) w1 (.slice ax x.length kx) x := ux.toF (fun k h1 h2 => by omega)
  have gy : TermsF oy (fun k => k < w.heap.size) w1 (.slice ay y.length ky) y := uy.toF (fun k h1 h2 => by omega)
  refine (may_spec o l h _ _ _ _ s _ 2 [x, y] w1 us (Nat.le_trans hh e1.size) sm AR (by simp) b Hb).mono ?_; rintro e w2 ⟨rfl, f2⟩
  have z2 := f2.size
  cases b
  · have E1 : Hid (ok = false) := Lib.hid Ho.out
    have E2 : Hid (r = sys0) := Lib.hid Hr.out
    have BR2 := BR.keep f2 (by omega)
    obtain ⟨y0, y1, y2, y3⟩ := FR.keep f2 (by omega)
    obtain ⟨r0, r1, r2, r3⟩ := id BR2
    have lA : w.heap.size + 1 + 1 + 1 < w2.heap.size := by omega
    have e2 : Below w.heap.size w w2 := e1.trans (f2.mono (by omega))
    obtain ⟨q0, q1, q2, q3⟩ := BR2.copied (.int .i64 0) (.slice none 0 0) (.slice none 0 0) (.slice none 0 0)
    clear BS BR FR AR us ts ux ex cx tx gx uy ey cy ty gy
    go_wp2_with fail
    rw [E1.out, E2.out]
    exact bodyPost_ret (v := .tuple #[.agg #[.int .i64 0, .slice none 0 0, .slice none 0 0, .slice none 0 0], .bool false]) (by simp [results, Try.results24, go_sem, q0, q1, q2, q3]) rfl ⟨_, _, _, _, fun _ => False, rfl, (by (repeat (with_reducible first | exact bR _ _ | assumption | refine bD ?_ | refine bN ?_ _ | refine bA ?_ _ | refine bS ?_ _))), SysF.zero _, fun _ q => q.elim⟩
  have hok := mayL_ok' Hb.out.symm
  have lim := limB_facts (sysOk_limB hok)
  have BS2 := BS.keep f2 (by omega)
  obtain ⟨s0, s1, s2, s3⟩ := id BS2
  clear AR ex ey
  have okx := linW_ok ((mayL_in Hb.out.symm).2 x (by simp))
  have ix := KIn.of_ok okx
  have jx := linOk_length okx
  have oky := linW_ok ((mayL_in Hb.out.symm).2 y (by simp))
  have iy := KIn.of_ok oky
  have jy := linOk_length oky
  go_wp2_with fail
  refine (l3own_any o l h _ _ _ _ s w2 (us.keep f2 (by omega)) (by omega) sm).mono ?_; rintro e w3 ⟨ui, uo, uh, uc, rfl, f3, own⟩
  obtain ⟨xo, jo, xh, jh, xc, jc, rfl, rfl, rfl, rfl, -⟩ := (own.sysF (Nat.le_refl _)).shape
  have z3 := f3.size
  have zo : w2.heap.size + 3 ≤ w3.heap.size := by obtain ⟨-, -, m1, m2, p1, p2, p3, -⟩ := own; omega
  have f13 : Below w1.heap.size w1 w3 := f2.trans (f3.mono (by omega))
  have cx3 := cell_keep f13 cx
  have lx3 : w.heap.size + 1 < w3.heap.size := by omega
  have cy3 := cell_keep f13 cy
  have ly3 : w.heap.size + 1 + 1 < w3.heap.size := by omega
  clear s0 s1 s2 s3
  go_wp2_with fail
  refine name_call fun w4 hw4 => ?_
  have e4 : Below w3.heap.size w3 w4 := by rw [hw4]; (repeat (with_reducible first | exact bR _ _ | assumption | refine bD ?_ | refine bN ?_ _ | refine bA ?_ _ | refine bS ?_ _))
  have z4 : w3.heap.size + 1 ≤ w4.heap.size := by rw [hw4]; simp
  have BX : Box4 w4 w3.heap.size (.int .i64 s.ins) (.slice xo s.outs.length jo) (.slice xh s.hints.length jh) (.slice xc s.cons.length jc) := ⟨by rw [hw4]; first | (simp; done) | go_simp, by rw [hw4]; first | (simp; done) | go_simp, by rw [hw4]; first | (simp; done) | go_simp, by rw [hw4]; first | (simp; done) | go_simp⟩
  have FX : Free4 w4 w3.heap.size := ⟨by rw [hw4]; first | (simp; done) | go_simp, by rw [hw4]; first | (simp; done) | go_simp, by rw [hw4]; first | (simp; done) | go_simp, by rw [hw4]; first | (simp; done) | go_simp⟩
  clear hw4
  have f14 : Below w1.heap.size w1 w4 := f13.trans (e4.mono (by omega))
  obtain ⟨Q, M4, hQ⟩ := Mdl.start (own.agree4 e4) (Nat.le_refl _) (by omega) BX FX
  have HQ := Lib.hid hQ
  have Gx := gx.agree (SameF.of_below f14 (fun k q => by have := q; omega))
  have Gy := gy.agree (SameF.of_below f14 (fun k q => by have := q; omega))
  have hGx : ∀ k, k < w.heap.size → k < w4.heap.size ∧ ¬ Q k := fun k q => ⟨by omega, fun r => by have := HQ.out k r; omega⟩
  refine (eq_spec _ w3.heap.size s Q _ (fun k => k < w.heap.size) ox _ x oy _ y w4 M4 (by omega) Gx Gy hGx ix iy (by omega) (by omega) lim.1 lim.2.1 (by omega) (by omega)).mono ?_; rintro e w5 ⟨Q5, A5, rfl, M5, X5, hA5⟩
  have z5 := X5.size
  have f25 : Below (w2.heap.size + 3) w4 w5 := X5.only.below HQ.out (by omega)
  have f15 : Below w1.heap.size w1 w5 := f14.trans (f25.mono (by omega))
  obtain ⟨hg, hq, fi5, fr5, vo, vh, vc, bx5, R1, F1, R2, F2, FO, rO, gr1, gr2, q1, q2, q3, q4⟩ := M5
  obtain ⟨Xo, Ko, rfl, -⟩ := id rO
  obtain ⟨Xh, Kh, rfl, -⟩ := gr1.shape
  obtain ⟨Xc, Kc, rfl, -⟩ := gr2.shape
  obtain ⟨t0, t1', t2', t3⟩ := id bx5
  obtain ⟨s0, s1, s2, s3⟩ := BS.keep f15 (by omega)
  have lS5 : w.heap.size < w5.heap.size := by omega
  have lG5 : w3.heap.size < w5.heap.size := by omega
  have RD : SysR false 0 w5.heap.size w5 (.int .i64 (eqS s x y).ins) (.slice Xo (eqS s x y).outs.length Ko) (.slice Xh (eqS s x y).hints.length Kh) (.slice Xc (eqS s x y).cons.length Kc) (eqS s x y) :=
    ⟨rfl, fi5, 0, _, 0, _, 0, _, Nat.le_refl _, Nat.le_refl _, Nat.le_refl _, Nat.le_refl _, Nat.le_refl _, Nat.le_refl _, fun h => (by cases h), rO.read, gr1.read, gr2.read⟩
  have cF5 := cell_keep f15 cx
  have lF5 : w.heap.size + 1 < w5.heap.size := by omega
  have ND := ((ux.keep f15 (Nat.le_trans hhx e1.size)).mono (l' := lx) (h' := hx) (Nat.le_refl _) (Nat.le_refl _))
  clear hq fr5 bx5 rO gr1 gr2 q1 q2 q3 q4 X5 M4 BX FX own cx3 Gx gx cy3 Gy gy
  go_wp2_with fail
  refine name_call fun w6 hw6 => ?_
  have e6 : Below w5.heap.size w5 w6 := by rw [hw6]; (repeat (with_reducible first | exact bR _ _ | assumption | refine bD ?_ | refine bN ?_ _ | refine bA ?_ _ | refine bS ?_ _))
  clear hw6
  have z6 := e6.size
  have f16 : Below w1.heap.size w1 w6 := f15.trans (e6.mono (by omega))
  obtain ⟨v, Hv⟩ : ∃ v, Hid (v = if sysOk (eqS s x y) = true then x else []) := ⟨_, Lib.hid rfl⟩
  refine (done_spec o l h _ _ _ _ s false 0 w5.heap.size _ _ _ _ (eqS s x y) ox lx hx _ x w6 (us.keep f16 (by omega)) (by omega) sm (RD.keep e6 (Nat.le_refl _)) z6 (small_con sm hok (show (mrg 2147483646 x y).length ≤ 1048576 from Nat.le_trans (mrg_length _ _ _) (by omega)) (show (constOf 1).length ≤ 1048576 from Nat.le_trans (constOf_len _) (by omega)) (Nat.zero_le _)) (ND.keep e6 (by omega)) (by omega) (by omega) ok r v (Lib.hid Ho.out) (Lib.hid Hr.out) Hv).mono ?_; rintro e w7 ⟨ui, uo, uh, uc, u, F, G, rfl, f7, S7, T7, hF, hG⟩
  obtain ⟨yo, no', yh, nh', yc, nc', rfl, rfl, rfl, rfl, -⟩ := id S7.shape
  obtain ⟨p7, k7, rfl, lp7, bp7⟩ := T7.shape
  have z7 := f7.size
  have f17 : Below w1.heap.size w1 w7 := f16.trans (f7.mono (by omega))
  clear BS us ts RD ND s0 s1 s2 s3 BS2 ux cx tx uy cy ty
  go_upto_region 6 with fail
  refine name_wp fun w8 hw8 => ?_
  have e8 : Below w7.heap.size w7 w8 := by rw [hw8]; (repeat (with_reducible first | exact bR _ _ | assumption | refine bD ?_ | refine bN ?_ _ | refine bA ?_ _ | refine bS ?_ _))
  have z8 : w7.heap.size + 2 ≤ w8.heap.size := by rw [hw8]; simp
  obtain ⟨b0, b1, b2, b3⟩ : Box4 w8 w7.heap.size (.int .i64 r.ins) (.slice yo r.outs.length no') (.slice yh r.hints.length nh') (.slice yc r.cons.length nc') := ⟨by rw [hw8]; first | (simp; done) | go_simp, by rw [hw8]; first | (simp; done) | go_simp, by rw [hw8]; first | (simp; done) | go_simp, by rw [hw8]; first | (simp; done) | go_simp⟩
  clear hw8
  have f18 : Below w1.heap.size w1 w8 := f17.trans (e8.mono (by omega))
  have BR2 := BR.keep f18 (by omega)
  obtain ⟨y0, y1, y2, y3⟩ := FR.keep f18 (by omega)
  obtain ⟨r0, r1, r2, r3⟩ := id BR2
  have lA : w.heap.size + 1 + 1 + 1 < w8.heap.size := by omega
  have lB : w7.heap.size < w8.heap.size := by omega
  have e9 : Below w.heap.size w w8 := e1.trans (f18.mono (by omega))
  have hF1 : ¬ F (w.heap.size + 1 + 1 + 1) := fun q => by have := hF _ q; omega
  obtain ⟨q0, q1, q2, q3⟩ := BR2.copied (.int .i64 r.ins) (.slice yo r.outs.length no') (.slice yh r.hints.length nh') (.slice yc r.cons.length nc')
  have S8 := (S7.agree (SameF.of_below e8 S7.lim) e8.size).agree (sameF_sets w8 (.int .i64 r.ins) (.slice yo r.outs.length no') (.slice yh r.hints.length nh') (.slice yc r.cons.length nc') hF1) (by simp)
  clear BR FR S7 T7 e8 f18 f17
  go_wp2_with fail
  generalize hY : World.setCell _ ⟨w.heap.size + 1 + 1 + 1, 3, none⟩ _ = Y at *
  have bY : Below w.heap.size w Y := by rw [← hY]; (repeat (with_reducible first | exact bR _ _ | assumption | refine bD ?_ | refine bN ?_ _ | refine bA ?_ _ | refine bS ?_ _))
  exact bodyPost_ret (v := .tuple #[.agg #[.int .i64 r.ins, .slice yo r.outs.length no', .slice yh r.hints.length nh', .slice yc r.cons.length nc'], .bool ok]) (by simp [results, Try.results24, go_sem, q0, q1, q2, q3]) rfl ⟨_, _, _, _, F, rfl, bY, S8, fun k q => by have := hF k q; omega⟩
set_option maxRecDepth 100000 in
set_option maxHeartbeats 3200000 in
theorem addBool_spec (o l h vi vo vh vc) (s : SysC) (ox lx hx vx) (x : List T) (w : World) (ts : SysR o l h w vi vo vh vc s) (hh : h ≤ w.heap.size) (sm : Small s) (tx : Terms ox lx hx w vx x) (hhx : hx ≤ w.heap.size) (nx : x.length ≤ 1048576)
    (b : Bool) (Hb : Hid (b = mayL s [x])) (ok : Bool) (r : SysC) (Ho : Hid (ok = (b && sysOk (boolS s x)))) (Hr : Hid (r = if b = true then (if sysOk (boolS s x) = true then boolS s x else s) else sys0)) :
    Calls Try.prog 22 #[.agg #[vi, vo, vh, vc], .agg #[vx]] w (ExtC ok r w) := by
  obtain ⟨ao, ko, ah, kh, ac, kc, rfl, rfl, rfl, rfl, lo, bo, lh, bh, lc, bc, fi⟩ := id ts.shape
  obtain ⟨ax, kx, rfl, qx, mbx⟩ := tx.shape
  go_enter Try.func22, Try.ntmps22
  go_wp2_with fail
  refine name_call fun w1 hw1 => ?_
  have e1 : Below w.heap.size w w1 := by rw [hw1]; (repeat (with_reducible first | exact bR _ _ | assumption | refine bD ?_ | refine bN ?_ _ | refine bA ?_ _ | refine bS ?_ _))
  have z1 : w.heap.size + 4 ≤ w1.heap.size := by rw [hw1]; simp
  have BS : Box4 w1 w.heap.size (.int .i64 s.ins) (.slice ao s.outs.length ko) (.slice ah s.hints.length kh) (.slice ac s.cons.length kc) := ⟨by rw [hw1]; first | (simp; done) | go_simp, by rw [hw1]; first | (simp; done) | go_simp, by rw [hw1]; first | (simp; done) | go_simp, by rw [hw1]; first | (simp; done) | go_simp⟩
  have cx : w1.cell? ⟨w.heap.size + 1, 0, none⟩ = some (.slice ax x.length kx) := by rw [hw1]; first | (simp; done) | go_simp
  have BR : Box4 w1 (w.heap.size + 1 + 1) (.int .i64 0) (.slice none 0 0) (.slice none 0 0) (.slice none 0 0) := ⟨by rw [hw1]; first | (simp; done) | go_simp, by rw [hw1]; first | (simp; done) | go_simp, by rw [hw1]; first | (simp; done) | go_simp, by rw [hw1]; first | (simp; done) | go_simp⟩
  have FR : Free4 w1 (w.heap.size + 1 + 1) := ⟨by rw [hw1]; first | (simp; done) | go_simp, by rw [hw1]; first | (simp; done) | go_simp, by rw [hw1]; first | (simp; done) | go_simp, by rw [hw1]; first | (simp; done) | go_simp⟩
  have ex : w1.cell? ⟨w.heap.size + 1 + 1 + 1, 0, none⟩ = some (.slice ax x.length kx) := by rw [hw1]; first | (simp; done) | go_simp
  clear hw1
  have ux := tx.keep e1 hhx
  have us := ts.keep e1 hh
  have AR : ArgsL w1 (w.heap.size + 1 + 1 + 1) [x] := ⟨by omega, fun j hj => by
    match j, hj with
    | 0, _ => exact ⟨_, ex, (OutL.arg (Q := fun _ => False) ux (Nat.le_trans hhx e1.size) (Nat.le_refl _) (fun _ q => q.elim)).read⟩⟩
  have gx : TermsF ox (fun k => k < w.heap.size) w1 (.slice ax x.length kx) x := ux.toF (fun k h1 h2 => by omega)
  refine (may_spec o l h _ _ _ _ s _ 1 [x] w1 us (Nat.le_trans hh e1.size) sm AR (by simp) b Hb).mono ?_; rintro e w2 ⟨rfl, f2⟩
  have z2 := f2.size
  cases b
  · have E1 : Hid (ok = false) := Lib.hid Ho.out
    have E2 : Hid (r = sys0) := Lib.hid Hr.out
    have BR2 := BR.keep f2 (by omega)
    obtain ⟨y0, y1, y2, y3⟩ := FR.keep f2 (by omega)
    obtain ⟨r0, r1, r2, r3⟩ := id BR2
    have lA : w.heap.size + 1 + 1 < w2.heap.size := by omega
    have e2 : Below w.heap.size w w2 := e1.trans (f2.mono (by omega))
    obtain ⟨q0, q1, q2, q3⟩ := BR2.copied (.int .i64 0) (.slice none 0 0) (.slice none 0 0) (.slice none 0 0)
    clear BS BR FR AR us ts ux ex cx tx gx
    go_wp2_with fail
    rw [E1.out, E2.out]
    exact bodyPost_ret (v := .tuple #[.agg #[.int .i64 0, .slice none 0 0, .slice none 0 0, .slice none 0 0], .bool false]) (by simp [results, Try.results22, go_sem, q0, q1, q2, q3]) rfl ⟨_, _, _, _, fun _ => False, rfl, (by (repeat (with_reducible first | exact bR _ _ | assumption | refine bD ?_ | refine bN ?_ _ | refine bA ?_ _ | refine bS ?_ _))), SysF.zero _, fun _ q => q.elim⟩
  have hok := mayL_ok' Hb.out.symm
  have lim := limB_facts (sysOk_limB hok)
  have BS2 := BS.keep f2 (by omega)
  obtain ⟨s0, s1, s2, s3⟩ := id BS2
  clear AR ex
  have okx := linW_ok ((mayL_in Hb.out.symm).2 x (by simp))
  have ix := KIn.of_ok okx
  have jx := linOk_length okx
  go_wp2_with fail
  refine (l3own_any o l h _ _ _ _ s w2 (us.keep f2 (by omega)) (by omega) sm).mono ?_; rintro e w3 ⟨ui, uo, uh, uc, rfl, f3, own⟩
  obtain ⟨xo, jo, xh, jh, xc, jc, rfl, rfl, rfl, rfl, -⟩ := (own.sysF (Nat.le_refl _)).shape
  have z3 := f3.size
  have zo : w2.heap.size + 3 ≤ w3.heap.size := by obtain ⟨-, -, m1, m2, p1, p2, p3, -⟩ := own; omega
  have f13 : Below w1.heap.size w1 w3 := f2.trans (f3.mono (by omega))
  have cx3 := cell_keep f13 cx
  have lx3 : w.heap.size + 1 < w3.heap.size := by omega
  clear s0 s1 s2 s3
  go_wp2_with fail
  refine name_call fun w4 hw4 => ?_
  have e4 : Below w3.heap.size w3 w4 := by rw [hw4]; (repeat (with_reducible first | exact bR _ _ | assumption | refine bD ?_ | refine bN ?_ _ | refine bA ?_ _ | refine bS ?_ _))
  have z4 : w3.heap.size + 1 ≤ w4.heap.size := by rw [hw4]; simp
  have BX : Box4 w4 w3.heap.size (.int .i64 s.ins) (.slice xo s.outs.length jo) (.slice xh s.hints.length jh) (.slice xc s.cons.length jc) := ⟨by rw [hw4]; first | (simp; done) | go_simp, by rw [hw4]; first | (simp; done) | go_simp, by rw [hw4]; first | (simp; done) | go_simp, by rw [hw4]; first | (simp; done) | go_simp⟩
  have FX : Free4 w4 w3.heap.size := ⟨by rw [hw4]; first | (simp; done) | go_simp, by rw [hw4]; first | (simp; done) | go_simp, by rw [hw4]; first | (simp; done) | go_simp, by rw [hw4]; first | (simp; done) | go_simp⟩
  clear hw4
  have f14 : Below w1.heap.size w1 w4 := f13.trans (e4.mono (by omega))
  obtain ⟨Q, M4, hQ⟩ := Mdl.start (own.agree4 e4) (Nat.le_refl _) (by omega) BX FX
  have HQ := Lib.hid hQ
  have Gx := gx.agree (SameF.of_below f14 (fun k q => by have := q; omega))
  have hGx : ∀ k, k < w.heap.size → k < w4.heap.size ∧ ¬ Q k := fun k q => ⟨by omega, fun r => by have := HQ.out k r; omega⟩
  refine (bool_spec _ w3.heap.size s Q _ (fun k => k < w.heap.size) ox _ x w4 M4 (by omega) Gx hGx ix (by omega) lim.1 lim.2.1 (by omega) (by omega)).mono ?_; rintro e w5 ⟨Q5, A5, rfl, M5, X5, hA5⟩
  have z5 := X5.size
  have f25 : Below (w2.heap.size + 3) w4 w5 := X5.only.below HQ.out (by omega)
  have f15 : Below w1.heap.size w1 w5 := f14.trans (f25.mono (by omega))
  obtain ⟨hg, hq, fi5, fr5, vo, vh, vc, bx5, R1, F1, R2, F2, FO, rO, gr1, gr2, q1, q2, q3, q4⟩ := M5
  obtain ⟨Xo, Ko, rfl, -⟩ := id rO
  obtain ⟨Xh, Kh, rfl, -⟩ := gr1.shape
  obtain ⟨Xc, Kc, rfl, -⟩ := gr2.shape
  obtain ⟨t0, t1', t2', t3⟩ := id bx5
  obtain ⟨s0, s1, s2, s3⟩ := BS.keep f15 (by omega)
  have lS5 : w.heap.size < w5.heap.size := by omega
  have lG5 : w3.heap.size < w5.heap.size := by omega
  have RD : SysR false 0 w5.heap.size w5 (.int .i64 (boolS s x).ins) (.slice Xo (boolS s x).outs.length Ko) (.slice Xh (boolS s x).hints.length Kh) (.slice Xc (boolS s x).cons.length Kc) (boolS s x) :=
    ⟨rfl, fi5, 0, _, 0, _, 0, _, Nat.le_refl _, Nat.le_refl _, Nat.le_refl _, Nat.le_refl _, Nat.le_refl _, Nat.le_refl _, fun h => (by cases h), rO.read, gr1.read, gr2.read⟩
  have cF5 := cell_keep f15 cx
  have lF5 : w.heap.size + 1 < w5.heap.size := by omega
  have ND := ((ux.keep f15 (Nat.le_trans hhx e1.size)).mono (l' := lx) (h' := hx) (Nat.le_refl _) (Nat.le_refl _))
  clear hq fr5 bx5 rO gr1 gr2 q1 q2 q3 q4 X5 M4 BX FX own cx3 Gx gx
  go_wp2_with fail
  refine name_call fun w6 hw6 => ?_
  have e6 : Below w5.heap.size w5 w6 := by rw [hw6]; (repeat (with_reducible first | exact bR _ _ | assumption | refine bD ?_ | refine bN ?_ _ | refine bA ?_ _ | refine bS ?_ _))
  clear hw6
  have z6 := e6.size
  have f16 : Below w1.heap.size w1 w6 := f15.trans (e6.mono (by omega))
  obtain ⟨v, Hv⟩ : ∃ v, Hid (v = if sysOk (boolS s x) = true then x else []) := ⟨_, Lib.hid rfl⟩
  refine (done_spec o l h _ _ _ _ s false 0 w5.heap.size _ _ _ _ (boolS s x) ox lx hx _ x w6 (us.keep f16 (by omega)) (by omega) sm (RD.keep e6 (Nat.le_refl _)) z6 (small_con sm hok (show x.length ≤ 1048576 by omega) (show (mrg 2147483646 x (constOf 1)).length ≤ 1048576 from Nat.le_trans (mrg_length _ _ _) (by have := constOf_len 1; omega)) (Nat.zero_le _)) (ND.keep e6 (by omega)) (by omega) (by omega) ok r v (Lib.hid Ho.out) (Lib.hid Hr.out) Hv).mono ?_; rintro e w7 ⟨ui, uo, uh, uc, u, F, G, rfl, f7, S7, T7, hF, hG⟩
  obtain ⟨yo, no', yh, nh', yc, nc', rfl, rfl, rfl, rfl, -⟩ := id S7.shape
  obtain ⟨p7, k7, rfl, lp7, bp7⟩ := T7.shape
  have z7 := f7.size
  have f17 : Below w1.heap.size w1 w7 := f16.trans (f7.mono (by omega))
  clear BS us ts RD ND s0 s1 s2 s3 BS2 ux cx tx
  go_upto_region 6 with fail
  refine name_wp fun w8 hw8 => ?_
  have e8 : Below w7.heap.size w7 w8 := by rw [hw8]; (repeat (with_reducible first | exact bR _ _ | assumption | refine bD ?_ | refine bN ?_ _ | refine bA ?_ _ | refine bS ?_ _))
  have z8 : w7.heap.size + 2 ≤ w8.heap.size := by rw [hw8]; simp
  obtain ⟨b0, b1, b2, b3⟩ : Box4 w8 w7.heap.size (.int .i64 r.ins) (.slice yo r.outs.length no') (.slice yh r.hints.length nh') (.slice yc r.cons.length nc') := ⟨by rw [hw8]; first | (simp; done) | go_simp, by rw [hw8]; first | (simp; done) | go_simp, by rw [hw8]; first | (simp; done) | go_simp, by rw [hw8]; first | (simp; done) | go_simp⟩
  clear hw8
  have f18 : Below w1.heap.size w1 w8 := f17.trans (e8.mono (by omega))
  have BR2 := BR.keep f18 (by omega)
  obtain ⟨y0, y1, y2, y3⟩ := FR.keep f18 (by omega)
  obtain ⟨r0, r1, r2, r3⟩ := id BR2
  have lA : w.heap.size + 1 + 1 < w8.heap.size := by omega
  have lB : w7.heap.size < w8.heap.size := by omega
  have e9 : Below w.heap.size w w8 := e1.trans (f18.mono (by omega))
  have hF1 : ¬ F (w.heap.size + 1 + 1) := fun q => by have := hF _ q; omega
  obtain ⟨q0, q1, q2, q3⟩ := BR2.copied (.int .i64 r.ins) (.slice yo r.outs.length no') (.slice yh r.hints.length nh') (.slice yc r.cons.length nc')
  have S8 := (S7.agree (SameF.of_below e8 S7.lim) e8.size).agree (sameF_sets w8 (.int .i64 r.ins) (.slice yo r.outs.length no') (.slice yh r.hints.length nh') (.slice yc r.cons.length nc') hF1) (by simp)
  clear BR FR S7 T7 e8 f18 f17
  go_wp2_with fail
  generalize hY : World.setCell _ ⟨w.heap.size + 1 + 1, 3, none⟩ _ = Y at *
  have bY : Below w.heap.size w Y := by rw [← hY]; (repeat (with_reducible first | exact bR _ _ | assumption | refine bD ?_ | refine bN ?_ _ | refine bA ?_ _ | refine bS ?_ _))
  exact bodyPost_ret (v := .tuple #[.agg #[.int .i64 r.ins, .slice yo r.outs.length no', .slice yh r.hints.length nh', .slice yc r.cons.length nc'], .bool ok]) (by simp [results, Try.results22, go_sem, q0, q1, q2, q3]) rfl ⟨_, _, _, _, F, rfl, bY, S8, fun k q => by have := hF k q; omega⟩
end Go.Proofs.Ytfkffadpnhfiaaa.L
