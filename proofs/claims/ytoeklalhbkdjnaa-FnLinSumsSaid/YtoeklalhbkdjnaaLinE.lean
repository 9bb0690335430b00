/- The draws of layer 2 for its laws; the smallest sum. -/
import Derived.Test.YtoeklalhbkdjnaaLinD2
import Derived.Test.YtoeklalhbkdjnaaB16
import Derived.Test.YtoeklalhbkdjnaaVal2
import Derived.Test.YtoeklalhbkdjnaaRow
namespace Go.Proofs.Ytoeklalhbkdjnaa.L
open Go.RowKit Go.Shelf Go.Proofs.Ytoeklalhbkdjnaa.S
set_option linter.unusedVariables false
set_option linter.unusedSimpArgs false

theorem row_wide {B B' : Nat} {w : World} {a : Option Addr} {len : Nat} (h : Row B w a len) (hb : B ≤ B') : Row B' w a len := ⟨h.1, h.2.imp id fun ⟨b, off, e, hl, hc⟩ => ⟨b, off, e, by omega, hc⟩⟩
/-- A drawn combination, out of a code. -/
def DrawnC (w : World) (e : Ending) (w' : World) : Prop :=
  ∃ u ts, e = .returned (.agg #[u]) ∧ Terms true w.heap.size w'.heap.size w' u ts ∧ ts.length ≤ 4 ∧ Below w.heap.size w w'
def DrawnCI (w : World) (e : Ending) (w' : World) : Prop :=
  ∃ u ts v, e = .returned (.tuple #[.agg #[u], .int .i64 v]) ∧ Terms true w.heap.size w'.heap.size w' u ts ∧ ts.length ≤ 4 ∧ -1 ≤ v ∧ v ≤ 6 ∧ Below w.heap.size w w'

set_option maxRecDepth 100000 in
set_option maxHeartbeats 1600000 in
theorem drawLinOk_any (a : Option Addr) (len cap : Nat) (w : World) (hr : Row w.heap.size w a len) :
    Calls Try.prog 40 #[.slice a len cap] w (DrawnC w) := by
  go_enter Try.func40, Try.ntmps40
  go_wp2_with fail
  refine name_call fun w1 hw1 => ?_
  have f1 : Below w.heap.size w w1 := by rw [hw1]; (repeat (with_reducible first | exact bR _ _ | assumption | refine bD ?_ | refine bN ?_ _ | refine bA ?_ _ | refine bS ?_ _))
  have z1 : w.heap.size + 1 ≤ w1.heap.size := by rw [hw1]; simp
  have c2 : w1.cell? ⟨w.heap.size, 0, none⟩ = some (.slice none 0 0) := by rw [hw1]; first | (simp; done) | go_simp
  have q2 : w1.frozen? ⟨w.heap.size, 0, none⟩ = false := by rw [hw1]; first | (simp; done) | go_simp
  clear hw1
  refine (l1New_any a len cap w1 (row_wide (hr.keep f1) (by omega))).mono ?_
  rintro e w2 ⟨rfl, cu2, be2, sz2⟩
  have d2 := ck be2 c2
  have r2 := bfk be2 q2 (by omega)
  have f2 := f1.trans (be2.mono (by omega))
  clear c2 q2
  go_wp2_with fail
  refine (l2bent_any w1.heap.size w1.heap.size a len cap w2 be2.size cu2).mono ?_
  rintro e w3 ⟨u, ts, rfl, t3, hl, cu3, gr3⟩
  have e3 := gck gr3 d2 (by omega)
  have s3 := gfk gr3 r2 (by omega) (by omega)
  have f3 := f2.trans ((below_of_grown gr3 (Nat.le_refl w1.heap.size) be2.size).mono (by omega))
  have z3 := gr3.size
  have hsz : w.heap.size < w3.heap.size := by omega
  obtain ⟨au, ku, rfl, lu, bu⟩ := t3.shape
  have T3 := Lib.hid (t3.mono (l' := w2.heap.size) (h' := w3.heap.size) (Nat.le_refl _) (Nat.le_refl _))
  clear t3 d2 r2 cu3 cu2 gr3
  go_wp2_with fail
  exact bodyPost_ret (v := .agg #[.slice au ts.length ku]) (by simp [results, Try.results40, go_sem, World.cell?_setCell_same' w3 ⟨w.heap.size, 0, none⟩ (.slice au ts.length ku) (by rw [e3]; rfl)]) rfl ⟨_, ts, rfl, (T3.out.agree (same_set (by omega))).mono (by omega) (by simp), hl, f3.setCell (Nat.le_refl _) _⟩

set_option maxRecDepth 100000 in
set_option maxHeartbeats 1600000 in
theorem drawCoeff_any (a : Option Addr) (len cap : Nat) (w : World) (hr : Row w.heap.size w a len) :
    Calls Try.prog 17 #[.slice a len cap] w (DrawnCI w) := by
  go_enter Try.func17, Try.ntmps17
  go_wp2_with fail
  refine name_call fun w1 hw1 => ?_
  have f1 : Below w.heap.size w w1 := by rw [hw1]; (repeat (with_reducible first | exact bR _ _ | assumption | refine bD ?_ | refine bN ?_ _ | refine bA ?_ _ | refine bS ?_ _))
  have z1 : w.heap.size + 1 ≤ w1.heap.size := by rw [hw1]; simp
  have c2 : w1.cell? ⟨w.heap.size, 0, none⟩ = some (.slice none 0 0) := by rw [hw1]; first | (simp; done) | go_simp
  have q2 : w1.frozen? ⟨w.heap.size, 0, none⟩ = false := by rw [hw1]; first | (simp; done) | go_simp
  clear hw1
  refine (l1New_any a len cap w1 (row_wide (hr.keep f1) (by omega))).mono ?_
  rintro e w2 ⟨rfl, cu2, be2, sz2⟩
  have d2 := ck be2 c2
  have r2 := bfk be2 q2 (by omega)
  have f2 := f1.trans (be2.mono (by omega))
  clear c2 q2
  go_wp2_with fail
  refine (drawLinOk_any a len cap w2 (row_wide (hr.keep f2) (by omega))).mono ?_
  rintro e w3 ⟨u, ts, rfl, t3, hl, f3⟩
  have e3 := ck f3 d2
  have s3 := bfk f3 r2 (by omega)
  have cu3 := cur_below cu2 be2.size f3
  have g3 := f2.trans (f3.mono (by omega))
  have z3 := f3.size
  obtain ⟨au, ku, rfl, lu, bu⟩ := t3.shape
  clear d2 r2 cu2
  go_wp2_with fail
  refine (l1Below_any w1.heap.size w1.heap.size a len cap 8 w3 (by omega) (by omega) cu3).mono ?_
  rintro e w4 ⟨x, rfl, ⟨x0, x1⟩, cu4, gr4⟩
  have e4 := gck gr4 e3 (by omega)
  have s4 := gfk gr4 s3 (by omega) (by omega)
  have g4 := g3.trans ((below_of_grown gr4 (Nat.le_refl w1.heap.size) (by omega)).mono (by omega))
  have z4 := gr4.size
  have hsz : w.heap.size < w4.heap.size := by omega
  have T4 := Lib.hid (t3.agree (w' := w4) (fun k h1 h2 => gr4.block k h2 (by simp; omega)))
  have hx : IntKind.i64.wrap (x - 1) = x - 1 := by rw [IntKind.wrap_i64]; omega
  clear t3 e3 s3 cu3 cu4 gr4
  go_wp2_with fail
  exact bodyPost_ret (v := .tuple #[.agg #[.slice au ts.length ku], .int .i64 (x - 1)]) (by simp [results, Try.results17, go_sem, World.cell?_setCell_same' w4 ⟨w.heap.size, 0, none⟩ (.slice au ts.length ku) (by rw [e4]; rfl)]) rfl ⟨_, ts, _, rfl, (T4.out.agree (same_set (by omega))).mono (by omega) (by simp; omega), hl, by omega, by omega, g4.setCell (Nat.le_refl _) _⟩

theorem lins_sum : lcomb 1 [(1, 1)] (constOf 5) = [(0, 5), (1, 1)] ∧ lok [(1, 1)] (constOf 5) = true := by
  have e : constOf 5 = [(0, 5)] := rfl
  rw [e]
  refine ⟨?_, rfl⟩
  rw [(lcomb_yes (k := 1) (xs := [((1 : Int), (1 : Int))]) (ys := [((0 : Int), (5 : Int))]) rfl rfl).1, mrg_gt 1 (1, 1) (0, 5) [] [] (by decide), mrg_a, mrg_nil]
  rfl
theorem lins_val : val [(0, 5), (1, 1)] [1, 7] = 12 ∧ valOk [(0, 5), (1, 1)] [1, 7] = true := ⟨rfl, rfl⟩

set_option maxRecDepth 100000 in
set_option maxHeartbeats 1600000 in
theorem lins_any (w : World) : Calls Try.prog 9 #[] w fun e w' => e = .returned (.bool true) ∧ Below w.heap.size w w' := by
  go_enter Try.func9, Try.ntmps9
  go_wp2_with fail
  refine (v_any 1 w (by omega) (by omega)).mono ?_
  rintro e w1 ⟨u1, rfl, f1, t1⟩
  obtain ⟨a1, k1, rfl, l1, b1⟩ := t1.shape
  go_wp2_with fail
  refine (const_impl 5 w1 (by omega) (by omega)).mono ?_
  rintro e w2 ⟨u2, rfl, f2, t2⟩
  obtain ⟨a2, k2, rfl, l2, b2⟩ := t2.shape
  have z1 := f1.size
  have z2 := f2.size
  go_wp2_with fail
  refine (linAdd_impl _ _ _ _ [(1, 1)] _ _ _ _ (constOf 5) w2 (t1.keep f2 (Nat.le_refl _)) z2 t2 (Nat.le_refl _)).mono ?_
  rw [lins_sum.1, lins_sum.2]
  rintro e w3 ⟨u3, rfl, f3, t3⟩
  obtain ⟨a3, k3, rfl, l3, b3⟩ := t3.shape
  have g3 : Below w.heap.size w w3 := (f1.trans (f2.mono z1)).trans (f3.mono (by omega))
  have z3 := f3.size
  clear t1 t2 f1 f2 f3
  go_wp2_with fail
  refine name_call fun w4 hw4 => ?_
  have f4 : Below w3.heap.size w3 w4 := by rw [hw4]; (repeat (with_reducible first | exact bR _ _ | assumption | refine bD ?_ | refine bN ?_ _ | refine bA ?_ _ | refine bS ?_ _))
  have I4 : Ints w4.heap.size w4 (.slice (some ⟨w3.heap.size + 1, 0, none⟩) 2 2) [1, 7] := by
    rw [hw4]
    refine ⟨_, 2, rfl, by simp, by omega, fun x hx => by simp at hx; rcases hx with rfl | rfl <;> (unfold S.Fits; omega), .inr ⟨w3.heap.size + 1, 0, rfl, by simp, fun j x hj => ?_⟩⟩
    match j, hj with
    | 0, hj => simp at hj; subst hj; first | (simp; done) | go_simp
    | 1, hj => simp at hj; subst hj; first | (simp; done) | go_simp
    | j + 2, hj => simp at hj
  have t4 := t3.keep f4 (Nat.le_refl _)
  have z4 := f4.size
  clear hw4 t3
  have hv := value_impl _ _ _ _ [(0, 5), (1, 1)] _ _ [1, 7] w4 t4 (by omega) I4 (Nat.le_refl _)
  rw [lins_val.1, lins_val.2] at hv
  refine hv.mono ?_
  rintro e w5 ⟨rfl, f5⟩
  have g5 := (g3.trans (f4.mono (by omega))).trans (f5.mono (by omega))
  clear hv t4 I4
  go_wp2_with fail
  go_ret
  exact ⟨rfl, g5⟩
end Go.Proofs.Ytoeklalhbkdjnaa.L
