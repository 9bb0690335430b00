/- AddRange is AddBits without its result: spec.AddRange (written by tools/gen/addg.py). -/
import Derived.Test.YtcenijdaacbgpaaGreatMAddR
import Derived.Test.YtcenijdaacbgpaaGreatB19
import Derived.Deep.DeepCutAuto
namespace Go.Proofs.YtcenijdaacbgpaaGreat.L
open Go.RowKit Go.Proofs.YtcenijdaacbgpaaGreat.S
set_option linter.unusedVariables false
set_option linter.unusedSimpArgs false

set_option maxRecDepth 100000 in
set_option maxHeartbeats 3200000 in
theorem addRange_spec (o l h vi vo vh vc) (s : SysC) (ox lx hx vx) (x : List T) (q : Int) (w : World) (ts : SysR o l h w vi vo vh vc s) (hh : h ≤ w.heap.size) (sm : Small s) (tx : Terms ox lx hx w vx x) (hhx : hx ≤ w.heap.size) (nx : x.length ≤ 1048576)
  (b : Bool) (Hb : Hid (b = mayL s [x])) (n : Nat) (hn : 1 ≤ q ∧ q ≤ 30 → q = (n : Int) ∧ n ≤ 30) (m : Bool) (hm : m = (decide (1 ≤ q ∧ q ≤ 30) && mayL s [x])) (ok : Bool) (r : SysC) (Ho : Hid (ok = (m && sysOk (bitsS s x n)))) (Hr : Hid (r = if m = true then (if sysOk (bitsS s x n) = true then bitsS s x n else s) else sys0)) :
  Calls Tryz.prog 6 #[.agg #[vi, vo, vh, vc], .agg #[vx], .int .i64 q] w (ExtC ok r w) := by
 obtain ⟨ao, ko, ah, kh, ac, kc, rfl, rfl, rfl, rfl, lo, bo, lh, bh, lc, bc, fi⟩ := id ts.shape
 obtain ⟨ax, kx, rfl, qx, mbx⟩ := tx.shape
 obtain ⟨v, hv⟩ : ∃ v, v = if (m && sysOk (bitsS s x n)) = true then (bitsK s x n).2 else [] := ⟨_, rfl⟩
 have Hv := Lib.hid hv
 have HN := Lib.hid hn
 have HM := Lib.hid hm
 clear hv hn hm
 go_enter Tryz.func6, Tryz.ntmps6
 go_wp2_with fail
 refine name_call fun w1 hw1 => ?_
 have e1 : Below w.heap.size w w1 := by rw [hw1]; (repeat (with_reducible first | exact bR _ _ | assumption | refine bD ?_ | refine bN ?_ _ | refine bA ?_ _ | refine bS ?_ _))
 have z1 : w.heap.size + 3 ≤ w1.heap.size := by rw [hw1]; simp
 have BR : Box4 w1 (w.heap.size + 1 + 1) (.int .i64 0) (.slice none 0 0) (.slice none 0 0) (.slice none 0 0) := ⟨by rw [hw1]; first | (simp; done) | go_simp, by rw [hw1]; first | (simp; done) | go_simp, by rw [hw1]; first | (simp; done) | go_simp, by rw [hw1]; first | (simp; done) | go_simp⟩
 have FR : Free4 w1 (w.heap.size + 1 + 1) := ⟨by rw [hw1]; first | (simp; done) | go_simp, by rw [hw1]; first | (simp; done) | go_simp, by rw [hw1]; first | (simp; done) | go_simp, by rw [hw1]; first | (simp; done) | go_simp⟩
 clear hw1
 have C := addBits_spec o l h _ _ _ _ s ox lx hx _ x q w1 (ts.keep e1 hh) (Nat.le_trans hh e1.size) sm (tx.keep e1 hhx) (Nat.le_trans hhx e1.size) nx b Hb n HN.out m HM.out ok r v Ho Hr Hv
 have HC := Lib.hid C
 clear C HN HM Hv
 refine HC.out.mono ?_; rintro e w2 ⟨ui, uo, uh, uc, u, F, G, rfl, f2, S2, T2, hF, hG⟩
 obtain ⟨xo, jo, xh, jh, xc, jc, rfl, rfl, rfl, rfl, -⟩ := id S2.shape
 obtain ⟨p, kp, rfl, lp, bp⟩ := T2.shape
 have z2 := f2.size
 have BR2 := BR.keep f2 (by omega)
 have FR2 := FR.keep f2 (by omega)
 have e2 : Below w.heap.size w w2 := e1.trans (f2.mono (by omega))
 have hF1 : ¬ F (w.heap.size + 1 + 1) := fun q => by have := hF _ q; omega
 have lA : w.heap.size + 1 + 1 < w2.heap.size := by omega
 clear BR FR ts T2 Ho Hr HC
 go_upto_region 2 with fail
 refine name_wp fun wm hwm => ?_
 have bm : Below w2.heap.size w2 wm := by rw [hwm]; (repeat (with_reducible first | exact bR _ _ | assumption | refine bD ?_ | refine bN ?_ _ | refine bA ?_ _ | refine bS ?_ _))
 have zm : w2.heap.size + 1 ≤ wm.heap.size := by rw [hwm]; simp
 have m0 : wm.cell? ⟨w2.heap.size, 0, none⟩ = some (.int .i64 r.ins) := by rw [hwm]; first | (simp; done) | go_simp
 have m1 : wm.cell? ⟨w2.heap.size, 1, none⟩ = some (.slice xo r.outs.length jo) := by rw [hwm]; first | (simp; done) | go_simp
 have m2 : wm.cell? ⟨w2.heap.size, 2, none⟩ = some (.slice xh r.hints.length jh) := by rw [hwm]; first | (simp; done) | go_simp
 have m3 : wm.cell? ⟨w2.heap.size, 3, none⟩ = some (.slice xc r.cons.length jc) := by rw [hwm]; first | (simp; done) | go_simp
 clear hwm
 have BR3 := BR2.keep bm (by omega)
 have FR3 := FR2.keep bm (by omega)
 obtain ⟨y0, y1, y2, y3⟩ := id FR3
 obtain ⟨r0, r1, r2, r3⟩ := id BR3
 have S3 := S2.agree (SameF.of_below bm S2.lim) bm.size
 have Q := Lib.hid (BR3.copied (.int .i64 r.ins) (.slice xo r.outs.length jo) (.slice xh r.hints.length jh) (.slice xc r.cons.length jc))
 have S7 := Lib.hid (S3.agree (sameF_sets wm (.int .i64 r.ins) (.slice xo r.outs.length jo) (.slice xh r.hints.length jh) (.slice xc r.cons.length jc) hF1) (by simp))
 have lB : w.heap.size + 1 + 1 < wm.heap.size := by omega
 have e3 : Below w.heap.size w wm := e2.trans (bm.mono (by omega))
 clear BR2 FR2 BR3 FR3 S2 S3 bm e2
 go_wp2_with fail
 obtain ⟨q0, q1, q2, q3⟩ := Q.out
 exact bodyPost_ret (v := .tuple #[.agg #[.int .i64 r.ins, .slice xo r.outs.length jo, .slice xh r.hints.length jh, .slice xc r.cons.length jc], .bool ok]) (by simp [results, Tryz.results6, go_sem, q0, q1, q2, q3]) rfl ⟨_, _, _, _, F, rfl, by (repeat (with_reducible first | exact bR _ _ | assumption | refine bD ?_ | refine bN ?_ _ | refine bA ?_ _ | refine bS ?_ _)), S7.out, fun k q => by have := hF k q; omega⟩
end Go.Proofs.YtcenijdaacbgpaaGreat.L
