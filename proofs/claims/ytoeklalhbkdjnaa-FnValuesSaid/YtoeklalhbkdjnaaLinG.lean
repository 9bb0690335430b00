/- The draw of layer 2 for values. -/
import Derived.Test.YtoeklalhbkdjnaaLinE
import Derived.Test.YtoeklalhbkdjnaaSome
import Derived.Test.YtoeklalhbkdjnaaSumsOf
import Derived.Test.YtoeklalhbkdjnaaB2
namespace Go.Proofs.Ytoeklalhbkdjnaa.L
open Go.RowKit Go.Shelf Go.Proofs.Ytoeklalhbkdjnaa.S
set_option linter.unusedVariables false
set_option linter.unusedSimpArgs false

/-- A drawn combination and a drawn row of values. -/
def DrawnV (w : World) (e : Ending) (w' : World) : Prop :=
  ∃ u ts v xs, e = .returned (.tuple #[.agg #[u], v]) ∧ Terms true w.heap.size w'.heap.size w' u ts ∧ ts.length ≤ 4 ∧ Ints w'.heap.size w' v xs ∧ Below w.heap.size w w'
theorem value_end {w V : World} {l h base : Nat} {u v : Value} {ts : List T} {xs : List Int} (t : Terms true l h V u ts) (h1 : w.heap.size < l) (h2 : h ≤ V.heap.size) (hl : ts.length ≤ 4)
    (own : V.ownsRow base 3 1 v xs.length (xs.map (Value.int .i64))) (hb : w.heap.size < base) (hf : ∀ x ∈ xs, Go.Proofs.Ytoeklalhbkdjnaa.Fits x) (be : Below w.heap.size w V) :
    DrawnV w (.returned (.tuple #[.agg #[u], v])) (V.setCell ⟨w.heap.size, 0, none⟩ u) :=
  ⟨u, ts, v, xs, rfl, (t.agree (same_set h1)).mono (Nat.le_of_lt h1) (by simp; omega), hl, ints_of_own (World.ownsRow.kept own (grownBy_setCell' V w.heap.size _) (.inr (own_ne own hb))) rfl hf, be.setCell (Nat.le_refl _) _⟩

set_option maxRecDepth 100000 in
set_option maxHeartbeats 3200000 in
theorem drawValue_any (a : Option Addr) (len cap : Nat) (w : World) (hr : Row w.heap.size w a len) :
    Calls Try.prog 6 #[.slice a len cap] w (DrawnV w) := by
  go_enter Try.func6, Try.ntmps6
  go_wp2_with fail
  refine name_call fun w1 hw1 => ?_
  have f1 : Below w.heap.size w w1 := by rw [hw1]; (repeat (with_reducible first | exact bR _ _ | assumption | refine bD ?_ | refine bN ?_ _ | refine bA ?_ _ | refine bS ?_ _))
  have y1 : w.heap.size + 1 ≤ w1.heap.size := by rw [hw1]; simp
  have c2 : w1.cell? ⟨w.heap.size, 0, none⟩ = some (.slice none 0 0) := by rw [hw1]; first | (simp; done) | go_simp
  have q2 : w1.frozen? ⟨w.heap.size, 0, none⟩ = false := by rw [hw1]; first | (simp; done) | go_simp
  clear hw1
  refine (l1New_any a len cap w1 (row_wide (hr.keep f1) (by omega))).mono ?_
  rintro e w2 ⟨rfl, cu2, be2, sz2⟩
  have hc2 : w1.heap.size < w2.heap.size := World.block_lt_of_cell? w2 ⟨w1.heap.size, 0, none⟩ cu2.c0
  have d2 := ck be2 c2
  have r2 := bfk be2 q2 (by omega)
  have f2 := f1.trans (be2.mono (by omega))
  clear c2 q2
  go_wp2_with fail
  refine (l2bent_any w1.heap.size w1.heap.size a len cap w2 be2.size cu2).mono ?_
  rintro e w3 ⟨u, ts, rfl, t3, hl, cu3, gr3⟩
  have e3 := gck gr3 d2 (by omega)
  have s3 := gfk gr3 r2 (by omega) (by omega)
  have f3 := f2.trans ((below_of_grown gr3 (Nat.le_refl w1.heap.size) be2.size).mono (by omega))
  have y3 := gr3.size
  obtain ⟨au, ku, rfl, lu, bu⟩ := t3.shape
  clear d2 r2 cu2 gr3 be2
  go_wp2_with fail
  refine name_call fun w4 hw4 => ?_
  have f4 : Below w3.heap.size w3 w4 := by rw [hw4]; (repeat (with_reducible first | exact bR _ _ | assumption | refine bD ?_ | refine bN ?_ _ | refine bA ?_ _ | refine bS ?_ _))
  have y4 : w3.heap.size + 1 ≤ w4.heap.size := by rw [hw4]; simp
  have S4 : w4.cell? ⟨w3.heap.size, 0, none⟩ = some (.slice au ts.length ku) := by rw [hw4]; first | (simp; done) | go_simp
  clear hw4
  have e4 := ck f4 e3
  have s4 := bfk f4 s3 (by omega)
  have t4 := t3.keep f4 (Nat.le_refl _)
  have cu4 := cur_below cu3 (by omega) f4
  have g4 := f3.trans (f4.mono (by omega))
  clear e3 s3 t3 cu3 f4 f3 f2 f1
  refine (l1Below_any w1.heap.size w1.heap.size a len cap 8 w4 (by omega) (by omega) cu4).mono ?_
  rintro e w5 ⟨x, rfl, ⟨x0, x1⟩, cu5, gr5⟩
  obtain ⟨q, rfl⟩ := Int.eq_ofNat_of_zero_le x0
  have hq : q ≤ 7 := by omega
  have y5 := gr5.size
  have e5 := gck gr5 e4 (by omega)
  have s5 := gfk gr5 s4 (by omega) (by omega)
  have S5 := gck gr5 S4 (by omega)
  have t5 := t4.agree (fun k h1 h2 => gr5.block k (by omega) (by simp; omega))
  have g5 := g4.trans ((below_of_grown gr5 (Nat.le_refl w1.heap.size) (by omega)).mono (by omega))
  clear e4 s4 S4 t4 cu4 gr5 g4 x0 x1
  go_wp2_with fail
  refine (l2some_any w1.heap.size w1.heap.size a len cap _ (1 + q) (by omega) w5 (by omega) (by omega) (by omega) cu5).mono ?_
  rintro e w6 ⟨v, xs, rfl, hx, hfit, own6, cu6, gr6⟩
  rw [← hx] at own6
  have hx1 : 1 ≤ xs.length := by omega
  have hx8 : xs.length ≤ 8 := by omega
  clear hx hq
  have y6 := gr6.size
  have e6 := gck gr6 e5 (by omega)
  have s6 := gfk gr6 s5 (by omega) (by omega)
  have S6 := gck gr6 S5 (by omega)
  have t6 := t5.agree (fun k h1 h2 => gr6.block k (by omega) (by simp; omega))
  have g6 := g5.trans ((below_of_grown gr6 (Nat.le_refl w1.heap.size) (by omega)).mono (by omega))
  clear e5 s5 S5 t5 cu5 gr6 g5
  obtain ⟨g, cp, rfl⟩ : ∃ g cp, v = .slice (some ⟨g, 0, none⟩) xs.length cp := by
    rcases own6.2 with ⟨_, h0⟩ | ⟨g, cp, cur, e, _⟩
    · omega
    · exact ⟨g, cp, e⟩
  go_wp2_with fail
  refine (l1Once_any w1.heap.size w1.heap.size a len cap 8 w6 (by omega) (by omega) cu6).mono ?_
  rintro e w7 ⟨bo, rfl, cu7, gr7⟩
  have y7 := gr7.size
  have e7 := gck gr7 e6 (by omega)
  have s7 := gfk gr7 s6 (by omega) (by omega)
  have S7 := gck gr7 S6 (by omega)
  have t7 := t6.agree (fun k h1 h2 => gr7.block k (by omega) (by simp; omega))
  have g7 := g6.trans ((below_of_grown gr7 (Nat.le_refl w1.heap.size) (by omega)).mono (by omega))
  have own7 := own6.kept gr7 (.inr (own_ne own6 (by omega)))
  clear e6 s6 S6 t6 cu6 gr7 g6 own6
  cases bo
  · have hsz : w.heap.size < w7.heap.size := by omega
    have H := Lib.hid (And.intro own7 (And.intro t7 g7))
    have HF := Lib.hid hfit
    clear own7 t7 g7 hfit cu7
    go_wp2_with fail
    exact bodyPost_ret (v := .tuple #[.agg #[.slice au ts.length ku], .slice (some ⟨g, 0, none⟩) xs.length cp]) (by simp [results, Try.results6, go_sem, World.cell?_setCell_same' w7 ⟨w.heap.size, 0, none⟩ (.slice au ts.length ku) (by rw [e7]; rfl)]) rfl (value_end H.out.2.1 (by omega) (by omega) hl H.out.1 (by omega) HF.out H.out.2.2)
  · go_wp2_with fail
    refine (l1Below_any w1.heap.size w1.heap.size a len cap _ w7 (by omega) (by omega) cu7).mono ?_
    rintro e w8 ⟨j, rfl, ⟨j0, j1⟩, cu8, gr8⟩
    obtain ⟨j, rfl⟩ := Int.eq_ofNat_of_zero_le j0
    have hj : j < xs.length := by omega
    have y8 := gr8.size
    have e8 := gck gr8 e7 (by omega)
    have S8 := gck gr8 S7 (by omega)
    have t8 := t7.agree (fun k h1 h2 => gr8.block k (by omega) (by simp; omega))
    have g8 := g7.trans ((below_of_grown gr8 (Nat.le_refl w1.heap.size) (by omega)).mono (by omega))
    have own8 := own7.kept gr8 (.inr (own_ne own7 (by omega)))
    have s8 := gfk gr8 s7 (by omega) (by omega)
    clear e7 S7 s7 t7 cu7 gr8 g7 own7 j0 j1
    go_wp2_with fail
    refine name_call fun w9 hw9 => ?_
    have f9 : Below w8.heap.size w8 w9 := by rw [hw9]; (repeat (with_reducible first | exact bR _ _ | assumption | refine bD ?_ | refine bN ?_ _ | refine bA ?_ _ | refine bS ?_ _))
    have y9 : w8.heap.size + 1 ≤ w9.heap.size := by rw [hw9]; simp
    have ea9 : Elems w9 w8.heap.size 0 3 Go.Proofs.Ytoeklalhbkdjnaa.Fits := by rw [hw9]; exact Elems.new (l := [-1, 2147483647, 5]) _ rfl (by intro v hv; simp only [List.mem_cons, List.not_mem_nil, or_false] at hv; unfold Go.Proofs.Ytoeklalhbkdjnaa.Fits; rcases hv with rfl | rfl | rfl <;> omega)
    clear hw9
    have cu9 := cur_below cu8 (by omega) f9
    have e9 := ck f9 e8
    have s9 := bfk f9 s8 (by omega)
    have S9 := ck f9 S8
    have t9 := t8.keep f9 (by omega)
    have g9 := g8.trans (f9.mono (by omega))
    have own9 := own8.kept (grown_below (r := some w1.heap.size) f9) (.inr (own_ne own8 (by omega)))
    clear e8 S8 s8 t8 cu8 f9 g8 own8
    refine (l1PickInt_any w1.heap.size w1.heap.size a len cap w8.heap.size 0 3 3 Go.Proofs.Ytoeklalhbkdjnaa.Fits w9 (by omega) (by omega) (by omega) (by omega) (by omega) cu9 ea9).mono ?_
    rintro e V ⟨y, rfl, hy, cu10, gr10⟩
    have y10 := gr10.size
    have eV := gck gr10 e9 (by omega)
    have sV := gfk gr10 s9 (by omega) (by omega)
    have SV := gck gr10 S9 (by omega)
    have tV := t9.agree (fun k h1 h2 => gr10.block k (by omega) (by simp; omega))
    have gV := g9.trans ((below_of_grown gr10 (Nat.le_refl w1.heap.size) (by omega)).mono (by omega))
    have ownV := own9.kept gr10 (.inr (own_ne own9 (by omega)))
    clear e9 S9 s9 t9 cu9 gr10 g9 own9 ea9 cu10
    have cw : V.cell? ⟨g, j, none⟩ = some (.int .i64 (xs[j]'hj)) := by rw [ownV.cellAt j (by omega), List.getElem?_map, List.getElem?_eq_getElem hj]; rfl
    have fw : V.frozen? ⟨g, j, none⟩ = false := ownV.frozenAt j
    have st9 := (ownV.stored j (.int .i64 y)).1
    have hgb : w5.heap.size ≤ g := (ownV.lt g rfl).1
    have A9 : (V.setCell ⟨g, j, none⟩ (.int .i64 y)).cell? ⟨w.heap.size, 0, none⟩ = some (.slice none 0 0) := (World.cell?_setCell_other _ _ _ _ (by first | (simp; done) | (simp; omega))).trans eV
    have t9 := tV.agree (same_set2 (w := V) (b := g) (o := j) (u := .int .i64 y) (.inr (by omega)))
    have be9 : Below w.heap.size w (V.setCell ⟨g, j, none⟩ (.int .i64 y)) := gV.setCell (by show w.heap.size ≤ g; omega) _
    have z9 : V.heap.size ≤ (V.setCell ⟨g, j, none⟩ (.int .i64 y)).heap.size := by simp
    have fit9 : ∀ z ∈ xs.set j y, Go.Proofs.Ytoeklalhbkdjnaa.Fits z := fun z hz => (List.mem_or_eq_of_mem_set hz).elim (hfit z) (fun e => by rw [e]; exact hy)
    have own9 : (V.setCell ⟨g, j, none⟩ (.int .i64 y)).ownsRow w5.heap.size 3 1 (.slice (some ⟨g, 0, none⟩) xs.length cp) (xs.set j y).length ((xs.set j y).map (Value.int .i64)) := by
      rw [← List.map_set] at st9; simpa using st9
    have H9 := Lib.hid (And.intro own9 (And.intro t9 be9))
    have HA := Lib.hid A9
    have HF := Lib.hid fit9
    have hng : g ≠ w3.heap.size := by omega
    have hng2 : g ≠ w.heap.size := by omega
    have hsz : w.heap.size < V.heap.size := by omega
    clear st9 t9 be9 A9 own9 tV gV ownV fit9 hfit hy
    go_wp2_with fail
    exact bodyPost_ret (v := .tuple #[.agg #[.slice au ts.length ku], .slice (some ⟨g, 0, none⟩) xs.length cp]) (by simp [results, Try.results6, go_sem, World.cell?_setCell_same' (V.setCell ⟨g, j, none⟩ (.int .i64 y)) ⟨w.heap.size, 0, none⟩ (.slice au ts.length ku) (by rw [HA.out]; rfl)]) rfl (value_end H9.out.2.1 (by omega) (by omega) hl H9.out.1 (by omega) HF.out H9.out.2.2)
end Go.Proofs.Ytoeklalhbkdjnaa.L
