/- AddLess: the model (written by tools/gen/less.py). -/
import Derived.Test.YtklcgclaeafoeaaGreatB15
import Derived.Test.YtklcgclaeafoeaaGreatMLess
import Derived.Test.YtklcgclaeafoeaaGreatMAddS
import Derived.Test.YtklcgclaeafoeaaGreatMAddR
import Derived.Test.YtklcgclaeafoeaaGreatMAddZ
import Derived.Test.YtklcgclaeafoeaaGreatSame5b
import Derived.Deep.DeepCutAuto
namespace Go.Proofs.YtklcgclaeafoeaaGreat.L
open Go.RowKit Go.Proofs.YtklcgclaeafoeaaGreat.S
set_option linter.unusedVariables false
set_option linter.unusedSimpArgs false

theorem lessD_len (x y : List T) (n : Nat) : (lessD x y n).length ≤ x.length + y.length + 1 := by
 have h1 := mrg_length 2147483646 x y
 have h2 := mrg_length 1 (mrg 2147483646 x y) (constOf ((2 : Int) ^ n))
 have h3 := constOf_len ((2 : Int) ^ n)
 unfold lessD; omega
theorem lessZ_len2 (s : SysC) (x y : List T) (n : Nat) : (lessZ s x y n).length ≤ 2 := by
 have h1 := bitsK_one s (lessD x y n) (n + 1) _ (getD_mem (z := []) (show n < (bitsK s (lessD x y n) (n + 1)).2.length by rw [bitsK_len]; omega))
 have h2 := mrg_length 2147483646 (constOf 1) ((bitsK s (lessD x y n) (n + 1)).2.getD n [])
 have h3 := constOf_len 1
 unfold lessZ; omega
theorem lessZ_len (s : SysC) (x y : List T) (n : Nat) : (lessZ s x y n).length ≤ 16777216 := Nat.le_trans (lessZ_len2 s x y n) (by omega)
set_option maxRecDepth 100000 in
set_option maxHeartbeats 6400000 in
theorem addLess_spec (o l h vi vo vh vc) (s : SysC) (ox lx hx vx) (x : List T) (oy ly hy vy) (y : List T) (q : Int) (w : World) (ts : SysR o l h w vi vo vh vc s) (hh : h ≤ w.heap.size) (sm : Small s) (tx : Terms ox lx hx w vx x) (hhx : hx ≤ w.heap.size) (nx : x.length ≤ 1048576) (ty : Terms oy ly hy w vy y) (hhy : hy ≤ w.heap.size) (ny : y.length ≤ 1048576)
  (b : Bool) (Hb : Hid (b = mayL s [x, y])) (n : Nat) (hn : 1 ≤ q ∧ q ≤ 29 → q = (n : Int) ∧ n ≤ 29) (m : Bool) (hm : m = (decide (1 ≤ q ∧ q ≤ 29) && mayL s [x, y]))
  (ok : Bool) (r : SysC) (v : List T) (Ho : Hid (ok = (m && sysOk (lessS s x y n)))) (Hr : Hid (r = if m = true then (if sysOk (lessS s x y n) = true then lessS s x y n else s) else sys0)) (Hv : Hid (v = if (m && sysOk (lessS s x y n)) = true then lessZ s x y n else [])) :
  Calls Tryz.prog 6 #[.agg #[vi, vo, vh, vc], .agg #[vx], .agg #[vy], .int .i64 q] w (ExtL ok r v w) := by
 obtain ⟨ao, ko, ah, kh, ac, kc, rfl, rfl, rfl, rfl, lo, bo, lh, bh, lc, bc, fi⟩ := id ts.shape
 obtain ⟨ax, kx, rfl, qx, mbx⟩ := tx.shape
 obtain ⟨ay, ky, rfl, qy, mby⟩ := ty.shape
 go_enter Tryz.func6, Tryz.ntmps6
 go_wp2_with fail
 refine name_call fun w1 hw1 => ?_
 have e1 : Below w.heap.size w w1 := by rw [hw1]; (repeat (with_reducible first | exact bR _ _ | assumption | refine bD ?_ | refine bN ?_ _ | refine bA ?_ _ | refine bS ?_ _))
 have z1 : w.heap.size + 6 ≤ w1.heap.size := by rw [hw1]; simp
 have BS : Box4 w1 w.heap.size (.int .i64 s.ins) (.slice ao s.outs.length ko) (.slice ah s.hints.length kh) (.slice ac s.cons.length kc) := ⟨by rw [hw1]; first | (simp; done) | go_simp, by rw [hw1]; first | (simp; done) | go_simp, by rw [hw1]; first | (simp; done) | go_simp, by rw [hw1]; first | (simp; done) | go_simp⟩
 have cx : w1.cell? ⟨w.heap.size + 1, 0, none⟩ = some (.slice ax x.length kx) := by rw [hw1]; first | (simp; done) | go_simp
 have cy : w1.cell? ⟨w.heap.size + 1 + 1, 0, none⟩ = some (.slice ay y.length ky) := by rw [hw1]; first | (simp; done) | go_simp
 have BR : Box4 w1 (w.heap.size + 1 + 1 + 1) (.int .i64 0) (.slice none 0 0) (.slice none 0 0) (.slice none 0 0) := ⟨by rw [hw1]; first | (simp; done) | go_simp, by rw [hw1]; first | (simp; done) | go_simp, by rw [hw1]; first | (simp; done) | go_simp, by rw [hw1]; first | (simp; done) | go_simp⟩
 have FR : Free4 w1 (w.heap.size + 1 + 1 + 1) := ⟨by rw [hw1]; first | (simp; done) | go_simp, by rw [hw1]; first | (simp; done) | go_simp, by rw [hw1]; first | (simp; done) | go_simp, by rw [hw1]; first | (simp; done) | go_simp⟩
 have cL : w1.cell? ⟨w.heap.size + 1 + 1 + 1 + 1, 0, none⟩ = some (.slice none 0 0) := by rw [hw1]; first | (simp; done) | go_simp
 have fL : w1.frozen? ⟨w.heap.size + 1 + 1 + 1 + 1, 0, none⟩ = false := by rw [hw1]; first | (simp; done) | go_simp
 have ex : w1.cell? ⟨w.heap.size + 1 + 1 + 1 + 1 + 1, 0, none⟩ = some (.slice ax x.length kx) := by rw [hw1]; first | (simp; done) | go_simp
 have ey : w1.cell? ⟨w.heap.size + 1 + 1 + 1 + 1 + 1, 1, none⟩ = some (.slice ay y.length ky) := by rw [hw1]; first | (simp; done) | go_simp
 clear hw1
 have ux := tx.keep e1 hhx
 have uy := ty.keep e1 hhy
 have us := ts.keep e1 hh
 have AR : ArgsL w1 (w.heap.size + 1 + 1 + 1 + 1 + 1) [x, y] := ⟨by omega, fun j hj => by
  match j, hj with
  | 0, _ => exact ⟨_, ex, (OutL.arg (Q := fun _ => False) ux (Nat.le_trans hhx e1.size) (Nat.le_refl _) (fun _ q => q.elim)).read⟩
  | 1, _ => exact ⟨_, ey, (OutL.arg (Q := fun _ => False) uy (Nat.le_trans hhy e1.size) (Nat.le_refl _) (fun _ q => q.elim)).read⟩⟩
 have gx : TermsF ox (fun k => k < w.heap.size) w1 (.slice ax x.length kx) x := ux.toF (fun k h1 h2 => by omega)
 have gy : TermsF oy (fun k => k < w.heap.size) w1 (.slice ay y.length ky) y := uy.toF (fun k h1 h2 => by omega)
 refine (may_spec o l h _ _ _ _ s _ 2 [x, y] w1 us (Nat.le_trans hh e1.size) sm AR (by simp) b Hb).mono ?_; rintro e w2 ⟨rfl, f2⟩
 have z2 := f2.size
 cases b
 ·have E0 : m = false := by rw [hm, ← Hb.out]; simp
  rw [E0] at Ho Hr Hv
  have E1 : Hid (ok = false) := Lib.hid Ho.out
  have E2 : Hid (r = sys0) := Lib.hid Hr.out
  have E3 : Hid (v = []) := Lib.hid Hv.out
  have BR2 := BR.keep f2 (by omega)
  obtain ⟨y0, y1, y2, y3⟩ := FR.keep f2 (by omega)
  obtain ⟨r0, r1, r2, r3⟩ := id BR2
  have cL2 := cell_keep f2 cL
  have fL2 := (f2.frozen (p := ⟨w.heap.size + 1 + 1 + 1 + 1, 0, none⟩) (show w.heap.size + 1 + 1 + 1 + 1 < w1.heap.size by omega)).trans fL
  have lA : w.heap.size + 1 + 1 + 1 < w2.heap.size := by omega
  have e2 : Below w.heap.size w w2 := e1.trans (f2.mono (by omega))
  have lB : w.heap.size + 1 + 1 + 1 + 1 < w2.heap.size := by omega
  obtain ⟨q0, q1, q2, q3⟩ := BR2.copied5 (b' := w.heap.size + 1 + 1 + 1 + 1) (by omega) (.int .i64 0) (.slice none 0 0) (.slice none 0 0) (.slice none 0 0) (.slice none 0 0)
  have q4 := cell_copied5 (b := w.heap.size + 1 + 1 + 1) cL2 (by omega) (.int .i64 0) (.slice none 0 0) (.slice none 0 0) (.slice none 0 0) (.slice none 0 0)
  clear BS BR FR cL fL AR us ts ux ex cx tx gx uy ey cy ty gy Ho Hr Hv hm E0 hn
  go_wp2_with fail
  exact bodyPost_ret (v := .tuple #[.agg #[.int .i64 0, .slice none 0 0, .slice none 0 0, .slice none 0 0], .agg #[.slice none 0 0], .bool false]) (by simp [results, Tryz.results6, go_sem, q0, q1, q2, q3, q4]) rfl (ExtL.of E1.out E2.out E3.out (by (repeat (with_reducible first | exact bR _ _ | assumption | refine bD ?_ | refine bN ?_ _ | refine bA ?_ _ | refine bS ?_ _))) (SysF.zero _) (TermsF.nil _ (fun _ => False) _) (fun _ q => q.elim) (fun _ q => q.elim))
 by_cases h1 : q < 1
 ·have E0 : m = false := by rw [hm, decide_eq_false (by omega)]; rfl
  rw [E0] at Ho Hr Hv
  have E1 : Hid (ok = false) := Lib.hid Ho.out
  have E2 : Hid (r = sys0) := Lib.hid Hr.out
  have E3 : Hid (v = []) := Lib.hid Hv.out
  have BR2 := BR.keep f2 (by omega)
  obtain ⟨y0, y1, y2, y3⟩ := FR.keep f2 (by omega)
  obtain ⟨r0, r1, r2, r3⟩ := id BR2
  have cL2 := cell_keep f2 cL
  have fL2 := (f2.frozen (p := ⟨w.heap.size + 1 + 1 + 1 + 1, 0, none⟩) (show w.heap.size + 1 + 1 + 1 + 1 < w1.heap.size by omega)).trans fL
  have lA : w.heap.size + 1 + 1 + 1 < w2.heap.size := by omega
  have e2 : Below w.heap.size w w2 := e1.trans (f2.mono (by omega))
  have lB : w.heap.size + 1 + 1 + 1 + 1 < w2.heap.size := by omega
  obtain ⟨q0, q1, q2, q3⟩ := BR2.copied5 (b' := w.heap.size + 1 + 1 + 1 + 1) (by omega) (.int .i64 0) (.slice none 0 0) (.slice none 0 0) (.slice none 0 0) (.slice none 0 0)
  have q4 := cell_copied5 (b := w.heap.size + 1 + 1 + 1) cL2 (by omega) (.int .i64 0) (.slice none 0 0) (.slice none 0 0) (.slice none 0 0) (.slice none 0 0)
  clear BS BR FR cL fL AR us ts ux ex cx tx gx uy ey cy ty gy Ho Hr Hv hm E0 hn
  go_wp2_with fail
  exact bodyPost_ret (v := .tuple #[.agg #[.int .i64 0, .slice none 0 0, .slice none 0 0, .slice none 0 0], .agg #[.slice none 0 0], .bool false]) (by simp [results, Tryz.results6, go_sem, q0, q1, q2, q3, q4]) rfl (ExtL.of E1.out E2.out E3.out (by (repeat (with_reducible first | exact bR _ _ | assumption | refine bD ?_ | refine bN ?_ _ | refine bA ?_ _ | refine bS ?_ _))) (SysF.zero _) (TermsF.nil _ (fun _ => False) _) (fun _ q => q.elim) (fun _ q => q.elim))
 by_cases h2 : q > 29
 ·have E0 : m = false := by rw [hm, decide_eq_false (by omega)]; rfl
  rw [E0] at Ho Hr Hv
  have E1 : Hid (ok = false) := Lib.hid Ho.out
  have E2 : Hid (r = sys0) := Lib.hid Hr.out
  have E3 : Hid (v = []) := Lib.hid Hv.out
  have BR2 := BR.keep f2 (by omega)
  obtain ⟨y0, y1, y2, y3⟩ := FR.keep f2 (by omega)
  obtain ⟨r0, r1, r2, r3⟩ := id BR2
  have cL2 := cell_keep f2 cL
  have fL2 := (f2.frozen (p := ⟨w.heap.size + 1 + 1 + 1 + 1, 0, none⟩) (show w.heap.size + 1 + 1 + 1 + 1 < w1.heap.size by omega)).trans fL
  have lA : w.heap.size + 1 + 1 + 1 < w2.heap.size := by omega
  have e2 : Below w.heap.size w w2 := e1.trans (f2.mono (by omega))
  have lB : w.heap.size + 1 + 1 + 1 + 1 < w2.heap.size := by omega
  obtain ⟨q0, q1, q2, q3⟩ := BR2.copied5 (b' := w.heap.size + 1 + 1 + 1 + 1) (by omega) (.int .i64 0) (.slice none 0 0) (.slice none 0 0) (.slice none 0 0) (.slice none 0 0)
  have q4 := cell_copied5 (b := w.heap.size + 1 + 1 + 1) cL2 (by omega) (.int .i64 0) (.slice none 0 0) (.slice none 0 0) (.slice none 0 0) (.slice none 0 0)
  clear BS BR FR cL fL AR us ts ux ex cx tx gx uy ey cy ty gy Ho Hr Hv hm E0 hn
  go_wp2_with fail
  exact bodyPost_ret (v := .tuple #[.agg #[.int .i64 0, .slice none 0 0, .slice none 0 0, .slice none 0 0], .agg #[.slice none 0 0], .bool false]) (by simp [results, Tryz.results6, go_sem, q0, q1, q2, q3, q4]) rfl (ExtL.of E1.out E2.out E3.out (by (repeat (with_reducible first | exact bR _ _ | assumption | refine bD ?_ | refine bN ?_ _ | refine bA ?_ _ | refine bS ?_ _))) (SysF.zero _) (TermsF.nil _ (fun _ => False) _) (fun _ q => q.elim) (fun _ q => q.elim))
 obtain ⟨rfl, hn29⟩ := hn ⟨by omega, by omega⟩
 have E0 : m = true := by rw [hm, decide_eq_true (by omega), ← Hb.out]; rfl
 rw [E0] at Ho Hr Hv
 clear hm E0 hn
 have hok := mayL_ok' Hb.out.symm
 have lim := limB_facts (sysOk_limB hok)
 have BS2 := BS.keep f2 (by omega)
 obtain ⟨s0, s1, s2, s3⟩ := id BS2
 clear AR ex ey
 have okx := linW_ok ((mayL_in Hb.out.symm).2 x (by simp))
 have ix := KIn.of_ok okx
 have jx := linOk_length okx
 have oky := linW_ok ((mayL_in Hb.out.symm).2 y (by simp))
 have iy := KIn.of_ok oky
 have jy := linOk_length oky
 go_wp2_with fail
 refine (l3own_any o l h _ _ _ _ s w2 (us.keep f2 (by omega)) (by omega) sm).mono ?_; rintro e w3 ⟨ui, uo, uh, uc, rfl, f3, own⟩
 obtain ⟨xo, jo, xh, jh, xc, jc, rfl, rfl, rfl, rfl, -⟩ := (own.sysF (Nat.le_refl _)).shape
 have z3 := f3.size
 have zo : w2.heap.size + 3 ≤ w3.heap.size := by obtain ⟨-, -, m1, m2, p1, p2, p3, -⟩ := own; omega
 have f13 : Below w1.heap.size w1 w3 := f2.trans (f3.mono (by omega))
 have cx3 := cell_keep f13 cx
 have lx3 : w.heap.size + 1 < w3.heap.size := by omega
 have cy3 := cell_keep f13 cy
 have ly3 : w.heap.size + 1 + 1 < w3.heap.size := by omega
 clear s0 s1 s2 s3
 go_wp2_with fail
 refine name_call fun w4 hw4 => ?_
 have e4 : Below w3.heap.size w3 w4 := by rw [hw4]; (repeat (with_reducible first | exact bR _ _ | assumption | refine bD ?_ | refine bN ?_ _ | refine bA ?_ _ | refine bS ?_ _))
 have z4 : w3.heap.size + 1 ≤ w4.heap.size := by rw [hw4]; simp
 have BX : Box4 w4 w3.heap.size (.int .i64 s.ins) (.slice xo s.outs.length jo) (.slice xh s.hints.length jh) (.slice xc s.cons.length jc) := ⟨by rw [hw4]; first | (simp; done) | go_simp, by rw [hw4]; first | (simp; done) | go_simp, by rw [hw4]; first | (simp; done) | go_simp, by rw [hw4]; first | (simp; done) | go_simp⟩
 have FX : Free4 w4 w3.heap.size := ⟨by rw [hw4]; first | (simp; done) | go_simp, by rw [hw4]; first | (simp; done) | go_simp, by rw [hw4]; first | (simp; done) | go_simp, by rw [hw4]; first | (simp; done) | go_simp⟩
 clear hw4
 have f14 : Below w1.heap.size w1 w4 := f13.trans (e4.mono (by omega))
 obtain ⟨Q, M4, hQ⟩ := Mdl.start (own.agree4 e4) (Nat.le_refl _) (by omega) BX FX
 have HQ := Lib.hid hQ
 have Gx := gx.agree (SameF.of_below f14 (fun k q => by have := q; omega))
 have Gy := gy.agree (SameF.of_below f14 (fun k q => by have := q; omega))
 have hGx : ∀ k, k < w.heap.size → k < w4.heap.size ∧ ¬ Q k := fun k q => ⟨by omega, fun r => by have := HQ.out k r; omega⟩
 refine (less_spec _ w3.heap.size s Q _ (fun k => k < w.heap.size) ox _ x oy _ y n w4 M4 (by omega) Gx Gy hGx ix iy (by omega) (by omega) hn29 lim.1 lim.2.1 (by omega) (by omega)).mono ?_; rintro e w5 ⟨u, Q5, A5, rfl, M5, N5, X5, hA5⟩
 obtain ⟨p, kp, rfl, lp, bp⟩ := N5.shape
 have z5 := X5.size
 have f25 : Below (w2.heap.size + 3) w4 w5 := X5.only.below HQ.out (by omega)
 have f15 : Below w1.heap.size w1 w5 := f14.trans (f25.mono (by omega))
 obtain ⟨hg, hq, fi5, fr5, vo, vh, vc, bx5, R1, F1, R2, F2, FO, rO, gr1, gr2, q1, q2, q3, q4⟩ := M5
 obtain ⟨Xo, Ko, rfl, -⟩ := id rO
 obtain ⟨Xh, Kh, rfl, -⟩ := gr1.shape
 obtain ⟨Xc, Kc, rfl, -⟩ := gr2.shape
 obtain ⟨t0, t1', t2', t3⟩ := id bx5
 obtain ⟨s0, s1, s2, s3⟩ := BS.keep f15 (by omega)
 have lS5 : w.heap.size < w5.heap.size := by omega
 have lG5 : w3.heap.size < w5.heap.size := by omega
 have RD : SysR false 0 w5.heap.size w5 (.int .i64 (lessS s x y n).ins) (.slice Xo (lessS s x y n).outs.length Ko) (.slice Xh (lessS s x y n).hints.length Kh) (.slice Xc (lessS s x y n).cons.length Kc) (lessS s x y n) :=
  ⟨rfl, fi5, 0, _, 0, _, 0, _, Nat.le_refl _, Nat.le_refl _, Nat.le_refl _, Nat.le_refl _, Nat.le_refl _, Nat.le_refl _, fun h => (by cases h), rO.read, gr1.read, gr2.read⟩
 have ND := N5.read
 clear hq fr5 bx5 rO gr1 gr2 q1 q2 q3 q4 X5 M4 BX FX own cx3 Gx gx cy3 Gy gy
 go_wp2_with fail
 refine name_call fun w6 hw6 => ?_
 have e6 : Below w5.heap.size w5 w6 := by rw [hw6]; (repeat (with_reducible first | exact bR _ _ | assumption | refine bD ?_ | refine bN ?_ _ | refine bA ?_ _ | refine bS ?_ _))
 clear hw6
 have z6 := e6.size
 have f16 : Below w1.heap.size w1 w6 := f15.trans (e6.mono (by omega))
 have nD : (lessD x y n).length ≤ 500000 := by have := lessD_len x y n; omega
 refine (done_spec o l h _ _ _ _ s false 0 w5.heap.size _ _ _ _ (lessS s x y n) false 0 w5.heap.size _ (lessZ s x y n) w6 (us.keep f16 (by omega)) (by omega) sm (RD.keep e6 (Nat.le_refl _)) z6 (small_bits sm hok nD (n + 1) (by omega)) (ND.keep e6 (Nat.le_refl _)) z6 (lessZ_len s x y n) ok r v (Lib.hid Ho.out) (Lib.hid Hr.out) (Lib.hid Hv.out)).mono ?_; rintro e w7 ⟨ui, uo, uh, uc, u, F, G, rfl, f7, S7, T7, hF, hG⟩
 obtain ⟨yo, no', yh, nh', yc, nc', rfl, rfl, rfl, rfl, -⟩ := id S7.shape
 obtain ⟨p7, k7, rfl, lp7, bp7⟩ := T7.shape
 have z7 := f7.size
 have f17 : Below w1.heap.size w1 w7 := f16.trans (f7.mono (by omega))
 have BR2 := BR.keep f17 (by omega)
 obtain ⟨y0, y1, y2, y3⟩ := FR.keep f17 (by omega)
 obtain ⟨r0, r1, r2, r3⟩ := id BR2
 have cL2 := cell_keep f17 cL
 have fL2 := (f17.frozen (p := ⟨w.heap.size + 1 + 1 + 1 + 1, 0, none⟩) (show w.heap.size + 1 + 1 + 1 + 1 < w1.heap.size by omega)).trans fL
 have lA : w.heap.size + 1 + 1 + 1 < w7.heap.size := by omega
 have lB : w.heap.size + 1 + 1 + 1 + 1 < w7.heap.size := by omega
 have e7 : Below w.heap.size w w7 := e1.trans (f17.mono (by omega))
 have hF1 : ¬ F (w.heap.size + 1 + 1 + 1) := fun q => by have := hF _ q; omega
 have hF2 : ¬ F (w.heap.size + 1 + 1 + 1 + 1) := fun q => by have := hF _ q; omega
 have hG1 : ¬ G (w.heap.size + 1 + 1 + 1) := fun q => by have := (hG _ q).1; omega
 have hG2 : ¬ G (w.heap.size + 1 + 1 + 1 + 1) := fun q => by have := (hG _ q).1; omega
 obtain ⟨q0, q1, q2, q3⟩ := BR2.copied5 (b' := w.heap.size + 1 + 1 + 1 + 1) (by omega) (.int .i64 r.ins) (.slice yo r.outs.length no') (.slice yh r.hints.length nh') (.slice yc r.cons.length nc') (.slice p7 v.length k7)
 have q4 := cell_copied5 (b := w.heap.size + 1 + 1 + 1) cL2 (by omega) (.int .i64 r.ins) (.slice yo r.outs.length no') (.slice yh r.hints.length nh') (.slice yc r.cons.length nc') (.slice p7 v.length k7)
 clear BS BR FR cL fL us ts RD ND s0 s1 s2 s3 BS2 ux cx tx uy cy ty
 go_wp2_with fail
 exact bodyPost_ret (v := .tuple #[.agg #[.int .i64 r.ins, .slice yo r.outs.length no', .slice yh r.hints.length nh', .slice yc r.cons.length nc'], .agg #[.slice p7 v.length k7], .bool ok]) (by simp [results, Tryz.results6, go_sem, q0, q1, q2, q3, q4]) rfl (ExtL.of rfl rfl rfl (by (repeat (with_reducible first | exact bR _ _ | assumption | refine bD ?_ | refine bN ?_ _ | refine bA ?_ _ | refine bS ?_ _))) (S7.agree (sameF_sets5 _ _ _ _ _ _ hF1 hF2) (by simp)) (T7.agree (sameF_sets5 _ _ _ _ _ _ hG1 hG2)) (fun k q => by have := hF k q; omega) (fun k q => by have := hG k q; simp; exact ⟨by omega, this.2⟩))
end Go.Proofs.YtklcgclaeafoeaaGreat.L
