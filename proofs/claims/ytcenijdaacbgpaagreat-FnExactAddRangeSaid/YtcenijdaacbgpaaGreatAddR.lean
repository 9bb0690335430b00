/- AddBits: the program. -/
import Derived.Test.YtcenijdaacbgpaaGreatExtR
import Derived.Test.YtcenijdaacbgpaaGreatB13
import Derived.Conc.MuLone
namespace Go.Proofs.YtcenijdaacbgpaaGreat.L
open Go.RowKit Go.Proofs.YtcenijdaacbgpaaGreat.S
set_option linter.unusedVariables false
set_option linter.unusedSimpArgs false

theorem enter_AddBits1 : ∀ args w, (callFunc 47 args).run Tryz.prog w = .ok (.enter 47 args) w := fun args w => Go.MuLone.run_callFunc_enter (fn := Tryz.f47) (by kernel_rfl) (by kernel_rfl) rfl args w
set_option maxRecDepth 100000 in
set_option maxHeartbeats 1600000 in
theorem addBits1_any (base g : Nat) (gv : Gv) (s : SysC) (b : Bd) (Q : Nat → Prop) (ox : Bool) (px pn : Nat) (vx : Value) (x : List T) (n : Nat) (w : World) (B : Bld base g gv s b Q w) (cx : w.cell? ⟨px, 0, none⟩ = some vx) (cn : w.cell? ⟨pn, 0, none⟩ = some (.int .i64 n)) (tx : OutL ox Q w vx x)
  (nx : x.length ≤ 1048576) (hn : n ≤ 30) (i0 : 0 ≤ s.ins) (i1 : s.ins ≤ 100) (nh : s.hints.length ≤ 1048576) (nc : s.cons.length ≤ 1048576) (nb : b.n + 100 ≤ 1000000) :
  Calls Tryz.prog 47 #[.pointer (some ⟨g, 0, none⟩), .pointer (some ⟨px, 0, none⟩), .pointer (some ⟨pn, 0, none⟩)] w (RetR base g gv s (bitsB s b x n) (bitsBK s b x n).2 Q w) := by
 obtain ⟨ax, kx, rfl, lx, mbx⟩ := tx.shape
 have lpx : px < w.heap.size := World.block_lt_of_cell? _ _ cx
 have lpn : pn < w.heap.size := World.block_lt_of_cell? _ _ cn
 go_enter Tryz.func47, Tryz.ntmps47
 go_wp2_with fail
 refine name_call fun w1 hw1 => ?_
 have e1 : Below w.heap.size w w1 := by rw [hw1]; (repeat (with_reducible first | exact bR _ _ | assumption | refine bD ?_ | refine bN ?_ _ | refine bA ?_ _ | refine bS ?_ _))
 clear hw1
 have z1 := e1.size
 have X1 : Ext Q Q w w1 := .of_below e1
 refine (bitsB_any base g gv s b Q ox _ x n w1 (B.below e1) (tx.ext X1) nx hn i0 i1 nh nc nb).mono ?_; rintro e w2 ⟨u, Q2, rfl, B2, N2, X2⟩
 obtain ⟨p, kp, rfl, lp, bp⟩ := N2.shape
 have XF := X1.trans X2
 have NF : NewR w.heap.size Q2 w2 (.slice p (bitsBK s b x n).2.length kp) (bitsBK s b x n).2 := N2.low (b2 := w.heap.size) z1 (fun R F gq => gq.low2 z1)
 clear tx X1 X2 B N2
 go_wp2_with fail
 go_ret
 exact RetR.of rfl rfl B2 NF XF

set_option maxRecDepth 100000 in
set_option maxHeartbeats 3200000 in
theorem addBits_impl (o l h vi vo vh vc) (s : SysC) (ox lx hx vx) (x : List T) (q : Int) (w : World) (ts : SysR o l h w vi vo vh vc s) (hh : h ≤ w.heap.size) (sm : Small s) (tx : Terms ox lx hx w vx x) (hhx : hx ≤ w.heap.size) (nx : x.length ≤ 1048576)
  (n : Nat) (hn : 1 ≤ q ∧ q ≤ 30 → q = (n : Int) ∧ n ≤ 30) (m : Bool) (hm : m = (decide (1 ≤ q ∧ q ≤ 30) && mayL s [x]))
  (ok : Bool) (r : SysC) (v : List (List T)) (Ho : Hid (ok = (m && bOk (bitsB s ⟨[], [], 0⟩ x n)))) (Hr : Hid (r = if m = true then bSys s (bitsB s ⟨[], [], 0⟩ x n) else sys0)) (Hv : Hid (v = if (m && bOk (bitsB s ⟨[], [], 0⟩ x n)) = true then (bitsBK s ⟨[], [], 0⟩ x n).2 else [])) :
  Calls Tryz.prog 24 #[.agg #[vi, vo, vh, vc], .agg #[vx], .int .i64 q] w (ExtR ok r v w) := by
 obtain ⟨ao, ko, ah, kh, ac, kc, rfl, rfl, rfl, rfl, lo, bo, lh, bh, lc, bc, fi⟩ := id ts.shape
 obtain ⟨ax, kx, rfl, qx, mbx⟩ := tx.shape
 by_cases h1 : q < 1
 ·have E0 : m = false := by rw [hm, decide_eq_false (by omega)]; rfl
  rw [E0] at Ho Hr Hv
  have E1 : Hid (ok = false) := Lib.hid Ho.out
  have E2 : Hid (r = sys0) := Lib.hid Hr.out
  have E3 : Hid (v = []) := Lib.hid Hv.out
  clear Ho Hr Hv hm E0 hn
  go_enter Tryz.func24, Tryz.ntmps24
  go_wp2_with fail
  exact bodyPost_ret (v := .tuple #[.agg #[.int .i64 0, .slice none 0 0, .slice none 0 0, .slice none 0 0], .slice none 0 0, .bool false]) (by simp [results, Tryz.results24, go_sem]) rfl (ExtR.of E1.out E2.out E3.out (by (repeat (with_reducible first | exact bR _ _ | assumption | refine bD ?_ | refine bN ?_ _ | refine bA ?_ _ | refine bS ?_ _))) (SysF.zero _) (RowF.nil FShape.lin (fun _ => False) _) (fun _ q => q.elim) (fun _ q => q.elim))
 by_cases h2 : q > 30
 ·have E0 : m = false := by rw [hm, decide_eq_false (by omega)]; rfl
  rw [E0] at Ho Hr Hv
  have E1 : Hid (ok = false) := Lib.hid Ho.out
  have E2 : Hid (r = sys0) := Lib.hid Hr.out
  have E3 : Hid (v = []) := Lib.hid Hv.out
  clear Ho Hr Hv hm E0 hn
  go_enter Tryz.func24, Tryz.ntmps24
  go_wp2_with fail
  exact bodyPost_ret (v := .tuple #[.agg #[.int .i64 0, .slice none 0 0, .slice none 0 0, .slice none 0 0], .slice none 0 0, .bool false]) (by simp [results, Tryz.results24, go_sem]) rfl (ExtR.of E1.out E2.out E3.out (by (repeat (with_reducible first | exact bR _ _ | assumption | refine bD ?_ | refine bN ?_ _ | refine bA ?_ _ | refine bS ?_ _))) (SysF.zero _) (RowF.nil FShape.lin (fun _ => False) _) (fun _ q => q.elim) (fun _ q => q.elim))
 obtain ⟨rfl, hn30⟩ := hn ⟨by omega, by omega⟩
 have E0 : m = mayL s [x] := by rw [hm, decide_eq_true (by omega)]; rfl
 rw [E0] at Ho Hr Hv
 have hEnter := enter_AddBits1
 clear hm E0 hn
 go_enter Tryz.func24, Tryz.ntmps24
 go_wp2_with fail
 refine name_call fun w1 hw1 => ?_
 have e1 : Below w.heap.size w w1 := by rw [hw1]; (repeat (with_reducible first | exact bR _ _ | assumption | refine bD ?_ | refine bN ?_ _ | refine bA ?_ _ | refine bS ?_ _))
 have z1 : w.heap.size + 5 ≤ w1.heap.size := by rw [hw1]; simp
 have cx : w1.cell? ⟨w.heap.size + 1, 0, none⟩ = some (.slice ax x.length kx) := by rw [hw1]; first | (simp; done) | go_simp
 have cn : w1.cell? ⟨w.heap.size + 1 + 1, 0, none⟩ = some (.int .i64 n) := by rw [hw1]; first | (simp; done) | go_simp
 have BR : Box4 w1 (w.heap.size + 1 + 1 + 1) (.int .i64 0) (.slice none 0 0) (.slice none 0 0) (.slice none 0 0) := ⟨by rw [hw1]; first | (simp; done) | go_simp, by rw [hw1]; first | (simp; done) | go_simp, by rw [hw1]; first | (simp; done) | go_simp, by rw [hw1]; first | (simp; done) | go_simp⟩
 have FR : Free4 w1 (w.heap.size + 1 + 1 + 1) := ⟨by rw [hw1]; first | (simp; done) | go_simp, by rw [hw1]; first | (simp; done) | go_simp, by rw [hw1]; first | (simp; done) | go_simp, by rw [hw1]; first | (simp; done) | go_simp⟩
 have ex : w1.cell? ⟨w.heap.size + 1 + 1 + 1 + 1, 0, none⟩ = some (.slice ax x.length kx) := by rw [hw1]; first | (simp; done) | go_simp
 clear hw1
 have ux := tx.keep e1 hhx
 have A : ArgsL w1 (w.heap.size + 1 + 1 + 1 + 1) [x] := ⟨by omega, fun j hj => by
  match j, hj with
  | 0, _ => exact ⟨_, ex, (OutL.arg (Q := fun _ => False) ux (Nat.le_trans hhx e1.size) (Nat.le_refl _) (fun _ q => q.elim)).read⟩⟩
 have C : mayL s [x] = true → ∀ gv g Q w', Below w1.heap.size w1 w' → Bld w1.heap.size g gv s ⟨[], [], 0⟩ Q w' → Calls Tryz.prog 47 (#[.pointer (some ⟨g, 0, none⟩)] ++ #[.pointer (some ⟨w.heap.size + 1, 0, none⟩), .pointer (some ⟨w.heap.size + 1 + 1, 0, none⟩)]) w' (RetR w1.heap.size g gv s (bitsB s ⟨[], [], 0⟩ x n) (bitsBK s ⟨[], [], 0⟩ x n).2 Q w') := fun hm gv g Q w' b B => by
  have lim := limB_facts (sysOk_limB (mayL_ok hm))
  exact addBits1_any w1.heap.size g gv s ⟨[], [], 0⟩ Q ox _ _ _ x n w' B (cell_keep b cx) (cell_keep b cn) (OutL.arg (ux.keep b (Nat.le_trans hhx e1.size)) (Nat.le_trans hhx e1.size) b.size B.low) nx hn30 lim.1 lim.2.1 sm.2.1 sm.2.2.1 (by simp)
 have nbd : (bitsB s ⟨[], [], 0⟩ x n).n ≤ 1000000 := by
  have := bitsBK_n s ⟨[], [], 0⟩ x n
  show (bitsBK s ⟨[], [], 0⟩ x n).1.n + 1 ≤ 1000000
  rw [this]; simp; omega
 refine (extR_any 47 _ o l h _ _ _ _ s _ 1 [x] (bitsB s ⟨[], [], 0⟩ x n) (bitsBK s ⟨[], [], 0⟩ x n).2 w1 (ts.keep e1 hh) (Nat.le_trans hh e1.size) sm A (by simp) (by simp) (by omega) nbd enter_AddBits1 C ok r v Ho Hr Hv).mono ?_; rintro e w2 ⟨ui, uo, uh, uc, u, F, G, rfl, f2, S2, T2, hF, hG⟩
 obtain ⟨xo, jo, xh, jh, xc, jc, rfl, rfl, rfl, rfl, -⟩ := id S2.shape
 obtain ⟨p, kp, rfl, lp, bp⟩ := T2.shape
 have z2 := f2.size
 have BR2 := BR.keep f2 (by omega)
 obtain ⟨y0, y1, y2, y3⟩ := FR.keep f2 (by omega)
 obtain ⟨r0, r1, r2, r3⟩ := id BR2
 have lA : w.heap.size + 1 + 1 + 1 < w2.heap.size := by omega
 have e2 : Below w.heap.size w w2 := e1.trans (f2.mono (by omega))
 have hF1 : ¬ F (w.heap.size + 1 + 1 + 1) := fun q => by have := hF _ q; omega
 have hG1 : ¬ G (w.heap.size + 1 + 1 + 1) := fun q => by have := (hG _ q).1; omega
 obtain ⟨q0, q1, q2, q3⟩ := BR2.copied (.int .i64 r.ins) (.slice xo r.outs.length jo) (.slice xh r.hints.length jh) (.slice xc r.cons.length jc)
 have S7 := S2.agree (sameF_sets w2 (.int .i64 r.ins) (.slice xo r.outs.length jo) (.slice xh r.hints.length jh) (.slice xc r.cons.length jc) hF1) (by simp)
 have T7 := T2.agree (sameF_sets w2 (.int .i64 r.ins) (.slice xo r.outs.length jo) (.slice xh r.hints.length jh) (.slice xc r.cons.length jc) hG1) (by simp)
 clear BR FR A C ts S2 T2
 go_wp2_with fail
 exact bodyPost_ret (v := .tuple #[.agg #[.int .i64 r.ins, .slice xo r.outs.length jo, .slice xh r.hints.length jh, .slice xc r.cons.length jc], .slice p v.length kp, .bool ok]) (by simp [results, Tryz.results24, go_sem, q0, q1, q2, q3]) rfl (ExtR.of rfl rfl rfl (by (repeat (with_reducible first | exact bR _ _ | assumption | refine bD ?_ | refine bN ?_ _ | refine bA ?_ _ | refine bS ?_ _))) S7 T7 (fun k q => by have := hF k q; omega) (fun k q => by have := hG k q; simp; exact ⟨by omega, by omega, this.2.2⟩))
end Go.Proofs.YtcenijdaacbgpaaGreat.L
