/- AddLess: the program (written by tools/gen/less.py). -/
import Derived.Test.YtcenijdaacbgpaaB13
import Derived.Test.YtcenijdaacbgpaaBLess
import Derived.Conc.MuLone
namespace Go.Proofs.Ytcenijdaacbgpaa.L
open Go.RowKit Go.Proofs.Ytcenijdaacbgpaa.S
set_option linter.unusedVariables false
set_option linter.unusedSimpArgs false

set_option maxRecDepth 100000 in
theorem enter_AddLess1 : ∀ args w, (callFunc 36 args).run Try.prog w = .ok (.enter 36 args) w := fun args w => Go.MuLone.run_callFunc_enter (fn := Try.f36) (by kernel_rfl) (by kernel_rfl) rfl args w
set_option maxRecDepth 100000 in
set_option maxHeartbeats 1600000 in
theorem addLess1_any (base g : Nat) (gv : Gv) (s : SysC) (b : Bd) (Q : Nat → Prop) (ox : Bool) (px : Nat) (vx : Value) (x : List T) (oy : Bool) (py : Nat) (vy : Value) (y : List T) (pn n : Nat) (w : World) (B : Bld base g gv s b Q w) (cx : w.cell? ⟨px, 0, none⟩ = some vx) (cy : w.cell? ⟨py, 0, none⟩ = some vy) (cn : w.cell? ⟨pn, 0, none⟩ = some (.int .i64 n)) (tx : OutL ox Q w vx x) (ty : OutL oy Q w vy y)
    (hn : n ≤ 29) (i0 : 0 ≤ s.ins) (i1 : s.ins ≤ 100) (nh : s.hints.length ≤ 1048576) (nc : s.cons.length ≤ 1048576) (nb : b.n + 100 ≤ 1000000) :
    Calls Try.prog 36 #[.pointer (some ⟨g, 0, none⟩), .pointer (some ⟨px, 0, none⟩), .pointer (some ⟨py, 0, none⟩), .pointer (some ⟨pn, 0, none⟩)] w (RetV base g gv s (lessB s b x y n) (lessBZ s b x y n) Q w) := by
  obtain ⟨ax, kx, rfl, lx, mbx⟩ := tx.shape
  obtain ⟨ay, ky, rfl, ly, mby⟩ := ty.shape
  have LQ := Lib.hid B.lim
  have NQ : Hid (∀ i, w.heap.size ≤ i → ¬ Q i) := Lib.hid fun i hi q => by have := LQ.out i q; omega
  have lpx : px < w.heap.size := World.block_lt_of_cell? _ _ cx
  have lpn : pn < w.heap.size := World.block_lt_of_cell? _ _ cn
  have lpy : py < w.heap.size := World.block_lt_of_cell? _ _ cy
  go_enter Try.func36, Try.ntmps36
  go_wp2_with fail
  refine name_call fun w1 hw1 => ?_
  have e1 : Below w.heap.size w w1 := by rw [hw1]; (repeat (with_reducible first | exact bR _ _ | assumption | refine bD ?_ | refine bN ?_ _ | refine bA ?_ _ | refine bS ?_ _))
  have z1 : w.heap.size + 1 ≤ w1.heap.size := by rw [hw1]; simp
  have cR1 : w1.cell? ⟨w.heap.size, 0, none⟩ = some (.slice none 0 0) := by rw [hw1]; first | (simp; done) | go_simp
  have fR1 : w1.frozen? ⟨w.heap.size, 0, none⟩ = false := by rw [hw1]; first | (simp; done) | go_simp
  clear hw1
  have X1 : Ext Q Q w w1 := .of_below e1
  refine (lessB_any base g gv s b Q ox _ x oy _ y n w1 (B.below e1) (tx.ext X1) (ty.ext X1) hn i0 i1 nh nc nb).mono ?_; rintro e w2 ⟨u, Q2, rfl, B2, N2, X2⟩
  obtain ⟨p, kp, rfl, lp, bp⟩ := N2.shape
  have z2 := X2.size
  have cR2 := (X2.cell (b := w.heap.size) (by omega) (NQ.out _ (Nat.le_refl _)) 0).trans cR1
  have fR2 := (X2.frozen (b := w.heap.size) (by omega) (NQ.out _ (Nat.le_refl _)) 0).trans fR1
  have n2 := X2.not (b := w.heap.size) (by omega) (NQ.out _ (Nat.le_refl _))
  have l2 : w.heap.size < w2.heap.size := by omega
  have XF := X1.trans X2
  clear cR1 fR1 tx ty X1 X2 B
  go_wp2_with fail
  exact bodyPost_ret (v := .agg #[.slice p (lessBZ s b x y n).length kp]) (by simp [results, Try.results36, go_sem, cR2]) rfl (RetV.of rfl rfl (B2.boxed n2) (lin_store (lo := w1.heap.size) N2 (by omega) (by omega)) (ext_boxed XF (by omega)))

set_option maxRecDepth 100000 in
set_option maxHeartbeats 3200000 in
theorem addLess_impl (o l h vi vo vh vc) (s : SysC) (ox lx hx vx) (x : List T) (oy ly hy vy) (y : List T) (q : Int) (w : World) (ts : SysR o l h w vi vo vh vc s) (hh : h ≤ w.heap.size) (sm : Small s) (tx : Terms ox lx hx w vx x) (hhx : hx ≤ w.heap.size) (ty : Terms oy ly hy w vy y) (hhy : hy ≤ w.heap.size) (nx : x.length ≤ 1048576) (ny : y.length ≤ 1048576)
    (n : Nat) (hn : 1 ≤ q ∧ q ≤ 29 → q = (n : Int) ∧ n ≤ 29) (m : Bool) (hm : m = (decide (1 ≤ q ∧ q ≤ 29) && mayL s [x, y]))
    (ok : Bool) (r : SysC) (v : List T) (Ho : Hid (ok = (m && bOk (lessB s ⟨[], [], 0⟩ x y n)))) (Hr : Hid (r = if m = true then bSys s (lessB s ⟨[], [], 0⟩ x y n) else sys0)) (Hv : Hid (v = if (m && bOk (lessB s ⟨[], [], 0⟩ x y n)) = true then lessBZ s ⟨[], [], 0⟩ x y n else [])) :
    Calls Try.prog 16 #[.agg #[vi, vo, vh, vc], .agg #[vx], .agg #[vy], .int .i64 q] w (ExtL ok r v w) := by
  obtain ⟨ao, ko, ah, kh, ac, kc, rfl, rfl, rfl, rfl, lo, bo, lh, bh, lc, bc, fi⟩ := id ts.shape
  obtain ⟨ax, kx, rfl, qx, mbx⟩ := tx.shape
  obtain ⟨ay, ky, rfl, qy, mby⟩ := ty.shape
  by_cases h1 : q < 1
  · have E0 : m = false := by rw [hm, decide_eq_false (by omega)]; rfl
    rw [E0] at Ho Hr Hv
    have E1 : Hid (ok = false) := Lib.hid Ho.out
    have E2 : Hid (r = sys0) := Lib.hid Hr.out
    have E3 : Hid (v = []) := Lib.hid Hv.out
    clear Ho Hr Hv hm E0 hn
    go_enter Try.func16, Try.ntmps16
    go_wp2_with fail
    exact bodyPost_ret (v := .tuple #[.agg #[.int .i64 0, .slice none 0 0, .slice none 0 0, .slice none 0 0], .agg #[.slice none 0 0], .bool false]) (by simp [results, Try.results16, go_sem]) rfl (ExtL.of E1.out E2.out E3.out (by (repeat (with_reducible first | exact bR _ _ | assumption | refine bD ?_ | refine bN ?_ _ | refine bA ?_ _ | refine bS ?_ _))) (SysF.zero _) (TermsF.nil _ (fun _ => False) _) (fun _ q => q.elim) (fun _ q => q.elim))
  by_cases h2 : q > 29
  · have E0 : m = false := by rw [hm, decide_eq_false (by omega)]; rfl
    rw [E0] at Ho Hr Hv
    have E1 : Hid (ok = false) := Lib.hid Ho.out
    have E2 : Hid (r = sys0) := Lib.hid Hr.out
    have E3 : Hid (v = []) := Lib.hid Hv.out
    clear Ho Hr Hv hm E0 hn
    go_enter Try.func16, Try.ntmps16
    go_wp2_with fail
    exact bodyPost_ret (v := .tuple #[.agg #[.int .i64 0, .slice none 0 0, .slice none 0 0, .slice none 0 0], .agg #[.slice none 0 0], .bool false]) (by simp [results, Try.results16, go_sem]) rfl (ExtL.of E1.out E2.out E3.out (by (repeat (with_reducible first | exact bR _ _ | assumption | refine bD ?_ | refine bN ?_ _ | refine bA ?_ _ | refine bS ?_ _))) (SysF.zero _) (TermsF.nil _ (fun _ => False) _) (fun _ q => q.elim) (fun _ q => q.elim))
  obtain ⟨rfl, hn29⟩ := hn ⟨by omega, by omega⟩
  have E0 : m = mayL s [x, y] := by rw [hm, decide_eq_true (by omega)]; rfl
  rw [E0] at Ho Hr Hv
  have hEnter := enter_AddLess1
  clear hm E0 hn
  go_enter Try.func16, Try.ntmps16
  go_wp2_with fail
  refine name_call fun w1 hw1 => ?_
  have e1 : Below w.heap.size w w1 := by rw [hw1]; (repeat (with_reducible first | exact bR _ _ | assumption | refine bD ?_ | refine bN ?_ _ | refine bA ?_ _ | refine bS ?_ _))
  have z1 : w.heap.size + 7 ≤ w1.heap.size := by rw [hw1]; simp
  have cx : w1.cell? ⟨w.heap.size + 1, 0, none⟩ = some (.slice ax x.length kx) := by rw [hw1]; first | (simp; done) | go_simp
  have cy : w1.cell? ⟨w.heap.size + 1 + 1, 0, none⟩ = some (.slice ay y.length ky) := by rw [hw1]; first | (simp; done) | go_simp
  have cn : w1.cell? ⟨w.heap.size + 1 + 1 + 1, 0, none⟩ = some (.int .i64 n) := by rw [hw1]; first | (simp; done) | go_simp
  have BR : Box4 w1 (w.heap.size + 1 + 1 + 1 + 1) (.int .i64 0) (.slice none 0 0) (.slice none 0 0) (.slice none 0 0) := ⟨by rw [hw1]; first | (simp; done) | go_simp, by rw [hw1]; first | (simp; done) | go_simp, by rw [hw1]; first | (simp; done) | go_simp, by rw [hw1]; first | (simp; done) | go_simp⟩
  have FR : Free4 w1 (w.heap.size + 1 + 1 + 1 + 1) := ⟨by rw [hw1]; first | (simp; done) | go_simp, by rw [hw1]; first | (simp; done) | go_simp, by rw [hw1]; first | (simp; done) | go_simp, by rw [hw1]; first | (simp; done) | go_simp⟩
  have cL : w1.cell? ⟨w.heap.size + 1 + 1 + 1 + 1 + 1, 0, none⟩ = some (.slice none 0 0) := by rw [hw1]; first | (simp; done) | go_simp
  have fL : w1.frozen? ⟨w.heap.size + 1 + 1 + 1 + 1 + 1, 0, none⟩ = false := by rw [hw1]; first | (simp; done) | go_simp
  have ex : w1.cell? ⟨w.heap.size + 1 + 1 + 1 + 1 + 1 + 1, 0, none⟩ = some (.slice ax x.length kx) := by rw [hw1]; first | (simp; done) | go_simp
  have ey : w1.cell? ⟨w.heap.size + 1 + 1 + 1 + 1 + 1 + 1, 1, none⟩ = some (.slice ay y.length ky) := by rw [hw1]; first | (simp; done) | go_simp
  clear hw1
  have ux := tx.keep e1 hhx
  have uy := ty.keep e1 hhy
  have A : ArgsL w1 (w.heap.size + 1 + 1 + 1 + 1 + 1 + 1) [x, y] := ⟨by omega, fun j hj => by
    match j, hj with
    | 0, _ => exact ⟨_, ex, (OutL.arg (Q := fun _ => False) ux (Nat.le_trans hhx e1.size) (Nat.le_refl _) (fun _ q => q.elim)).read⟩
    | 1, _ => exact ⟨_, ey, (OutL.arg (Q := fun _ => False) uy (Nat.le_trans hhy e1.size) (Nat.le_refl _) (fun _ q => q.elim)).read⟩⟩
  have C : mayL s [x, y] = true → ∀ gv g Q w', Below w1.heap.size w1 w' → Bld w1.heap.size g gv s ⟨[], [], 0⟩ Q w' → Calls Try.prog 36 (#[.pointer (some ⟨g, 0, none⟩)] ++ #[.pointer (some ⟨w.heap.size + 1, 0, none⟩), .pointer (some ⟨w.heap.size + 1 + 1, 0, none⟩), .pointer (some ⟨w.heap.size + 1 + 1 + 1, 0, none⟩)]) w' (RetV w1.heap.size g gv s (lessB s ⟨[], [], 0⟩ x y n) (lessBZ s ⟨[], [], 0⟩ x y n) Q w') := fun hm gv g Q w' b B => by
    have lim := limB_facts (sysOk_limB (mayL_ok hm))
    exact addLess1_any w1.heap.size g gv s ⟨[], [], 0⟩ Q ox _ _ x oy _ _ y _ n w' B (cell_keep b cx) (cell_keep b cy) (cell_keep b cn) (OutL.arg (ux.keep b (Nat.le_trans hhx e1.size)) (Nat.le_trans hhx e1.size) b.size B.low) (OutL.arg (uy.keep b (Nat.le_trans hhy e1.size)) (Nat.le_trans hhy e1.size) b.size B.low) hn29 lim.1 lim.2.1 sm.2.1 sm.2.2.1 (by simp)
  have nbd : (lessB s ⟨[], [], 0⟩ x y n).n ≤ 1000000 := by
    have := bitsBK_n s ⟨[], [], 0⟩ (lessBD x y n) (n + 1)
    show (bitsBK s ⟨[], [], 0⟩ (lessBD x y n) (n + 1)).1.n + 1 ≤ 1000000
    rw [this]; simp; omega
  refine (extL_any 36 _ o l h _ _ _ _ s _ 2 [x, y] (lessB s ⟨[], [], 0⟩ x y n) (lessBZ s ⟨[], [], 0⟩ x y n) w1 (ts.keep e1 hh) (Nat.le_trans hh e1.size) sm A (by simp) (by simp) (by omega) nbd enter_AddLess1 C ok r v Ho Hr Hv).mono ?_; rintro e w2 ⟨ui, uo, uh, uc, u, F, G, rfl, f2, S2, T2, hF, hG⟩
  obtain ⟨xo, jo, xh, jh, xc, jc, rfl, rfl, rfl, rfl, -⟩ := id S2.shape
  obtain ⟨p, kp, rfl, lp, bp⟩ := T2.shape
  have z2 := f2.size
  have BR2 := BR.keep f2 (by omega)
  obtain ⟨y0, y1, y2, y3⟩ := FR.keep f2 (by omega)
  obtain ⟨r0, r1, r2, r3⟩ := id BR2
  have cL2 := cell_keep f2 cL
  have fL2 := (f2.frozen (p := ⟨w.heap.size + 1 + 1 + 1 + 1 + 1, 0, none⟩) (show w.heap.size + 1 + 1 + 1 + 1 + 1 < w1.heap.size by omega)).trans fL
  have lA : w.heap.size + 1 + 1 + 1 + 1 < w2.heap.size := by omega
  have lB : w.heap.size + 1 + 1 + 1 + 1 + 1 < w2.heap.size := by omega
  have e2 : Below w.heap.size w w2 := e1.trans (f2.mono (by omega))
  have hF1 : ¬ F (w.heap.size + 1 + 1 + 1 + 1) := fun q => by have := hF _ q; omega
  have hF2 : ¬ F (w.heap.size + 1 + 1 + 1 + 1 + 1) := fun q => by have := hF _ q; omega
  have hG1 : ¬ G (w.heap.size + 1 + 1 + 1 + 1) := fun q => by have := (hG _ q).1; omega
  have hG2 : ¬ G (w.heap.size + 1 + 1 + 1 + 1 + 1) := fun q => by have := (hG _ q).1; omega
  obtain ⟨q0, q1, q2, q3⟩ := BR2.copied5 (b' := w.heap.size + 1 + 1 + 1 + 1 + 1) (by omega) (.int .i64 r.ins) (.slice xo r.outs.length jo) (.slice xh r.hints.length jh) (.slice xc r.cons.length jc) (.slice p v.length kp)
  have q4 := cell_copied5 (b := w.heap.size + 1 + 1 + 1 + 1) cL2 (by omega) (.int .i64 r.ins) (.slice xo r.outs.length jo) (.slice xh r.hints.length jh) (.slice xc r.cons.length jc) (.slice p v.length kp)
  clear BR FR cL fL A C ts
  go_wp2_with fail
  exact bodyPost_ret (v := .tuple #[.agg #[.int .i64 r.ins, .slice xo r.outs.length jo, .slice xh r.hints.length jh, .slice xc r.cons.length jc], .agg #[.slice p v.length kp], .bool ok]) (by simp [results, Try.results16, go_sem, q0, q1, q2, q3, q4]) rfl (ExtL.of rfl rfl rfl (by (repeat (with_reducible first | exact bR _ _ | assumption | refine bD ?_ | refine bN ?_ _ | refine bA ?_ _ | refine bS ?_ _))) (S2.agree (sameF_sets5 _ _ _ _ _ _ hF1 hF2) (by simp)) (T2.agree (sameF_sets5 _ _ _ _ _ _ hG1 hG2)) (fun k q => by have := hF k q; omega) (fun k q => by have := hG k q; simp; exact ⟨by omega, this.2⟩))

end Go.Proofs.Ytcenijdaacbgpaa.L
