/- The draw of two combinations. -/
import Derived.Test.YtoeklalhbkdjnaaLinJ
import Derived.Test.YtoeklalhbkdjnaaB3
import Derived.Test.YtoeklalhbkdjnaaDr
import Derived.Test.YtoeklalhbkdjnaaB2
namespace Go.Proofs.Ytoeklalhbkdjnaa.L
open Go.RowKit Go.Shelf Go.Proofs.Ytoeklalhbkdjnaa.S
set_option linter.unusedVariables false
set_option linter.unusedSimpArgs false

set_option maxRecDepth 100000 in
set_option maxHeartbeats 1600000 in
theorem l2times_odd (o2 l2 h2 vb ys) (k : Int) (w : World) (t2 : Terms o2 l2 h2 w vb ys) (hw2 : h2 ≤ w.heap.size) (k0 : 0 ≤ k) (k1 : k < 2147483647) (hy : ∀ t ∈ ys, -1 ≤ t.2 ∧ t.2 ≤ 2147483647) (ny : ys.length ≤ 1048576) :
    Calls Try.prog 47 #[.agg #[vb], .int .i64 k] w fun e w' => ∃ u zs, e = .returned (.agg #[u]) ∧ Below w.heap.size w w' ∧ Terms true w.heap.size w'.heap.size w' u zs ∧ zs.length ≤ ys.length := by
  obtain ⟨b, kb, rfl, lb, bb⟩ := t2.shape
  go_enter Try.func47, Try.ntmps47
  go_wp2_with fail
  refine name_call fun w1 hw1 => ?_
  have f1 : Below w.heap.size w w1 := by rw [hw1]; (repeat (with_reducible first | exact bR _ _ | assumption | refine bD ?_ | refine bN ?_ _ | refine bA ?_ _ | refine bS ?_ _))
  have z1 : w.heap.size + 2 ≤ w1.heap.size := by rw [hw1]; simp
  have c2 : w1.cell? ⟨w.heap.size + 1, 0, none⟩ = some (.slice none 0 0) := by rw [hw1]; first | (simp; done) | go_simp
  have q2 : w1.frozen? ⟨w.heap.size + 1, 0, none⟩ = false := by rw [hw1]; first | (simp; done) | go_simp
  have s1 := t2.keep f1 hw2
  clear hw1
  refine (l2add_odd _ _ _ _ ys k w1 s1 (by omega) k0 k1 hy ny).mono ?_
  rintro e w2 ⟨u, zs, rfl, f2, r2, hl⟩
  obtain ⟨au, ku, rfl, lu, bu⟩ := r2.shape
  have d2 := ck f2 c2
  have p2 := bfk f2 q2 (by omega)
  have z2 := f2.size
  have f3 := f1.trans (f2.mono (by omega))
  have hsz : w.heap.size + 1 < w2.heap.size := by omega
  have R := Lib.hid r2
  clear r2 c2 q2 f2 s1
  go_wp2_with fail
  exact bodyPost_ret (v := .agg #[.slice au zs.length ku]) (by simp [results, Try.results47, go_sem, World.cell?_setCell_same' w2 ⟨w.heap.size + 1, 0, none⟩ (.slice au zs.length ku) (by rw [d2]; rfl)]) rfl ⟨_, zs, rfl, f3.setCell (by show w.heap.size ≤ w.heap.size + 1; omega) _, (R.out.agree (same_set (by omega))).mono (by omega) (by simp), hl⟩

theorem Cur.narrow {B B' : Nat} {w : World} {c : Nat} {a : Option Addr} {len cap : Nat} (h : Cur B w c a len cap) (hr : Row B' w a len) (hB : B' ≤ c) : Cur B' w c a len cap := ⟨hB, hr, h.c0, h.c1, h.c2, h.fz⟩
/-- What stays while two combinations are written into the boxes of the answer. -/
structure LA (b0 c b5 l h : Nat) (u : Value) (ts : List T) (X wx : World) : Prop where
  be : Below b0 X wx
  sz : X.heap.size ≤ wx.heap.size
  c5 : wx.cell? ⟨b5, 0, none⟩ = some u
  t : Terms true l h wx u ts
  p0 : ∃ z, wx.cell? ⟨b0, 0, none⟩ = some z
  q0 : wx.frozen? ⟨b0, 0, none⟩ = false
  p1 : ∃ z, wx.cell? ⟨b0 + 1, 0, none⟩ = some z
  q1 : wx.frozen? ⟨b0 + 1, 0, none⟩ = false
section
variable {b0 c b5 l h : Nat} {u : Value} {ts : List T} {X wx w' : World}
theorem LA.grow (a : LA b0 c b5 l h u ts X wx) (g : wx.grownBy w' (some c)) (h0 : b0 + 1 < c) (h5 : b5 ≠ c) (hl : c < l) (hh : h ≤ wx.heap.size) (hs : b0 + 1 < wx.heap.size) : LA b0 c b5 l h u ts X w' :=
  ⟨a.be.trans (below_of_grown g (by omega) (by omega)), Nat.le_trans a.sz g.size, gck g a.c5 h5, a.t.agree (fun k h1 h2 => g.block k (by omega) (by simp; omega)),
    a.p0.imp fun z e => gck g e (by omega), gfk g a.q0 (by omega) (by omega), a.p1.imp fun z e => gck g e (by omega), gfk g a.q1 (by omega) (by omega)⟩
theorem cell_some {w : World} {b b' : Nat} {v : Value} (h : ∃ z, w.cell? ⟨b, 0, none⟩ = some z) : ∃ z, (w.setCell ⟨b', 0, none⟩ v).cell? ⟨b, 0, none⟩ = some z := by
  obtain ⟨z, e⟩ := h
  by_cases q : b' = b
  · subst q; exact ⟨v, World.cell?_setCell_same' w ⟨b', 0, none⟩ v (by rw [e]; rfl)⟩
  · exact ⟨z, (World.cell?_setCell_other w ⟨b', 0, none⟩ ⟨b, 0, none⟩ v (by first | (simp; done) | (simp; omega) | (simp; exact fun q2 => q q2.symm))).trans e⟩
theorem LA.set {b : Nat} {v : Value} (a : LA b0 c b5 l h u ts X wx) (hb : b = b0 ∨ b = b0 + 1) (h5 : b5 ≠ b) (hl : b < l) : LA b0 c b5 l h u ts X (wx.setCell ⟨b, 0, none⟩ v) :=
  ⟨a.be.setCell (by show b0 ≤ b; omega) _, by rw [World.size_setCell]; exact a.sz, (World.cell?_setCell_other _ _ _ _ (by first | (simp; done) | (simp; omega))).trans a.c5, a.t.agree (same_set hl),
    cell_some a.p0, by rw [World.frozen?_setCell]; exact a.q0, cell_some a.p1, by rw [World.frozen?_setCell]; exact a.q1⟩
end
/-- A value is a combination of at most four terms that lies in new memory. -/
def NewT (l : Nat) (wx : World) (v : Value) : Prop := ∃ ab kb tb, v = .agg #[.slice ab (List.length (α := T) tb) kb] ∧ Terms true l wx.heap.size wx (.slice ab tb.length kb) tb ∧ tb.length ≤ 4 ∧ ∀ t ∈ tb, -1 ≤ t.2 ∧ t.2 ≤ 2147483647
def NewU (l : Nat) (wx : World) (v : Value) : Prop := ∃ ab kb tb, v = .agg #[.slice ab (List.length (α := T) tb) kb] ∧ Terms true l wx.heap.size wx (.slice ab tb.length kb) tb ∧ tb.length ≤ 4
theorem NewT.keep {l : Nat} {wx w' : World} {v : Value} (h : NewT l wx v) (b : Below wx.heap.size wx w') : NewT l w' v := by
  obtain ⟨ab, kb, tb, e, t, r⟩ := h
  exact ⟨ab, kb, tb, e, (t.keep b (Nat.le_refl _)).mono (Nat.le_refl _) b.size, r⟩
theorem NewU.keep {l : Nat} {wx w' : World} {v : Value} (h : NewU l wx v) (b : Below wx.heap.size wx w') : NewU l w' v := by
  obtain ⟨ab, kb, tb, e, t, r⟩ := h
  exact ⟨ab, kb, tb, e, (t.keep b (Nat.le_refl _)).mono (Nat.le_refl _) b.size, r⟩
theorem NewT.set {l b : Nat} {wx : World} {v z : Value} (h : NewT l wx v) (hb : b < l) : NewT l (wx.setCell ⟨b, 0, none⟩ z) v := by
  obtain ⟨ab, kb, tb, e, t, r⟩ := h
  exact ⟨ab, kb, tb, e, (t.agree (same_set hb)).mono (Nat.le_refl _) (by simp), r⟩
theorem NewU.set {l b : Nat} {wx : World} {v z : Value} (h : NewU l wx v) (hb : b < l) : NewU l (wx.setCell ⟨b, 0, none⟩ z) v := by
  obtain ⟨ab, kb, tb, e, t, r⟩ := h
  exact ⟨ab, kb, tb, e, (t.agree (same_set hb)).mono (Nat.le_refl _) (by simp), r⟩

/-- Two drawn combinations. -/
def DrawnLL (w : World) (e : Ending) (w' : World) : Prop :=
  ∃ u ub ts tb, e = .returned (.tuple #[.agg #[u], .agg #[ub]]) ∧ Terms true w.heap.size w'.heap.size w' u ts ∧ Terms true w.heap.size w'.heap.size w' ub tb ∧ ts.length ≤ 4 ∧ tb.length ≤ 4 ∧ Below w.heap.size w w'

set_option maxRecDepth 100000 in
set_option maxHeartbeats 3200000 in
theorem drawLinAdd_any (a : Option Addr) (len cap : Nat) (w : World) (hr : Row w.heap.size w a len) :
    Calls Try.prog 42 #[.slice a len cap] w (DrawnLL w) := by
  go_enter Try.func42, Try.ntmps42
  go_wp2_with fail
  refine name_call fun w1 hw1 => ?_
  have f1 : Below w.heap.size w w1 := by rw [hw1]; (repeat (with_reducible first | exact bR _ _ | assumption | refine bD ?_ | refine bN ?_ _ | refine bA ?_ _ | refine bS ?_ _))
  have y1 : w.heap.size + 2 ≤ w1.heap.size := by rw [hw1]; simp
  have c0 : w1.cell? ⟨w.heap.size, 0, none⟩ = some (.slice none 0 0) := by rw [hw1]; first | (simp; done) | go_simp
  have q0 : w1.frozen? ⟨w.heap.size, 0, none⟩ = false := by rw [hw1]; first | (simp; done) | go_simp
  have c1 : w1.cell? ⟨w.heap.size + 1, 0, none⟩ = some (.slice none 0 0) := by rw [hw1]; first | (simp; done) | go_simp
  have q1 : w1.frozen? ⟨w.heap.size + 1, 0, none⟩ = false := by rw [hw1]; first | (simp; done) | go_simp
  clear hw1
  refine (l1New_any a len cap w1 (row_wide (hr.keep f1) (by omega))).mono ?_
  rintro e w2 ⟨rfl, cu2, be2, sz2⟩
  have hc2 : w1.heap.size < w2.heap.size := World.block_lt_of_cell? w2 ⟨w1.heap.size, 0, none⟩ cu2.c0
  have f2 := f1.trans (be2.mono (by omega))
  have cu2 : Cur w.heap.size w2 w1.heap.size a len cap := Cur.narrow cu2 (hr.keep f2) (by omega)
  have d0 := ck be2 c0
  have r0 := bfk be2 q0 (by omega)
  have d1 := ck be2 c1
  have r1 := bfk be2 q1 (by omega)
  clear c0 q0 c1 q1 be2
  go_wp2_with fail
  refine (l2bent_wide w.heap.size w1.heap.size a len cap w2 (by omega) cu2).mono ?_
  rintro e w3 ⟨u, ts, rfl, t3, hl, cu3, gr3, hbd⟩
  have e0 := gck gr3 d0 (by omega)
  have s0 := gfk gr3 r0 (by omega) (by omega)
  have e1 := gck gr3 d1 (by omega)
  have s1 := gfk gr3 r1 (by omega) (by omega)
  have f3 := f2.trans (below_of_grown gr3 (by omega) (by omega))
  have y3 := gr3.size
  obtain ⟨au, ku, rfl, lu, bu⟩ := t3.shape
  have HBD := Lib.hid hbd
  clear d0 r0 d1 r1 cu2 gr3 hbd
  go_wp2_with fail
  refine name_call fun w4 hw4 => ?_
  have f4 : Below w3.heap.size w3 w4 := by rw [hw4]; (repeat (with_reducible first | exact bR _ _ | assumption | refine bD ?_ | refine bN ?_ _ | refine bA ?_ _ | refine bS ?_ _))
  have y4 : w3.heap.size + 1 ≤ w4.heap.size := by rw [hw4]; simp
  have S4 : w4.cell? ⟨w3.heap.size, 0, none⟩ = some (.slice au ts.length ku) := by rw [hw4]; first | (simp; done) | go_simp
  clear hw4
  have A4 : LA w.heap.size w1.heap.size w3.heap.size w2.heap.size w3.heap.size (.slice au ts.length ku) ts w4 w4 := ⟨Below.refl _ _, Nat.le_refl _, S4, t3.keep f4 (Nat.le_refl _), ⟨_, ck f4 e0⟩, bfk f4 s0 (by omega), ⟨_, ck f4 e1⟩, bfk f4 s1 (by omega)⟩
  have cu4 := cur_below cu3 (by omega) f4
  have g4 := f3.trans (f4.mono (by omega))
  clear e0 s0 e1 s1 t3 cu3 f4 f3 f2 f1 S4
  refine (l1Once_any w.heap.size w1.heap.size a len cap 4 w4 (by omega) (by omega) cu4).mono ?_
  rintro e w5 ⟨bo, rfl, cu5, gr5⟩
  have y5 := gr5.size
  have A5 := A4.grow gr5 (by omega) (by omega) (by omega) (by omega) (by omega)
  have g5 : Below w.heap.size w w5 := g4.trans (below_of_grown gr5 (by omega) (by omega))
  clear A4 cu4 gr5 g4
  have lt0 : w.heap.size < w5.heap.size := by omega
  have lt1 : w.heap.size + 1 < w5.heap.size := by omega
  have lt5 : w3.heap.size < w5.heap.size := by omega
  have A6 : LA w.heap.size w1.heap.size w3.heap.size w2.heap.size w3.heap.size (.slice au ts.length ku) ts w5.drew w5.drew := ⟨Below.refl _ _, Nat.le_refl _, A5.c5, A5.t.agree (fun _ _ _ => rfl), A5.p0, A5.q0, A5.p1, A5.q1⟩
  have cu6 : Cur w.heap.size w5.drew w1.heap.size a len cap := cu5.keep ((Below.refl _ _).drew) rfl
  have g6 : Below w.heap.size w w5.drew := g5.drew
  have y6 : w5.drew.heap.size = w5.heap.size := rfl
  clear A5 cu5 g5
  have HR := Lib.hid hr
  clear hr
  cases bo
  · go_wp2_with fail
    refine wp_region_drawn [16, 17, 18] (fun d u wx => LA w.heap.size w1.heap.size w3.heap.size w2.heap.size w3.heap.size (.slice au ts.length ku) ts w5.drew wx ∧ (d 2 = false → Cur w.heap.size wx w1.heap.size a len cap) ∧ (d 0 = true → u 16 = .agg #[.slice au ts.length ku]) ∧ (d 1 = true → u 17 = .pointer (some ⟨w1.heap.size, 0, none⟩)) ∧ (d 2 = true → NewU w5.drew.heap.size wx (u 18)) ∧ (d 3 = true → wx.cell? ⟨w.heap.size, 0, none⟩ = some (.slice au ts.length ku)) ∧ (d 4 = true → d 2 = true ∧ ∃ z, u 18 = .agg #[z] ∧ wx.cell? ⟨w.heap.size + 1, 0, none⟩ = some z)) (by kernel_rfl) (by kernel_rfl) (by kernel_rfl) ?_ ?_ ?_
    · intro u; exact ⟨A6, fun _ => cu6, vac0 rfl, vac0 rfl, vac0 rfl, vac0 rfl, vac0 rfl⟩
    · refine ⟨?_, ?_, ?_, ?_, ?_, trivial⟩
      · intro d u wx hd0 hd hF
        obtain ⟨hL, hC, f0, f1, f2, f3, f4⟩ := hF
        refine Wpv.env fun ρ hin hout hcon hfun => ?_
        have E5 : ρ (.tmp 5) = .pointer (some ⟨w3.heap.size, 0, none⟩) := (hout 5 (by kernel_rfl)).trans (by kernel_rfl)
        clear hin hout
        have c0 := hL.c5
        refine Wpv.value (v := .agg #[.slice au ts.length ku]) (w' := wx) ?_ ⟨hL, hC, fun _ => rfl, f1, f2, f3, f4⟩
        clear hC f0 f1 f2 f3 f4
        simp only [execOp]; rw [E5]; go_simp
      · intro d u wx hd0 hd hF
        obtain ⟨hL, hC, f0, f1, f2, f3, f4⟩ := hF
        refine Wpv.env fun ρ hin hout hcon hfun => ?_
        have E4 : ρ (.tmp 4) = .pointer (some ⟨w1.heap.size, 0, none⟩) := (hout 4 (by kernel_rfl)).trans (by kernel_rfl)
        clear hin hout
        refine Wpv.value (v := .pointer (some ⟨w1.heap.size, 0, none⟩)) (w' := wx) ?_ ⟨hL, hC, f0, fun _ => rfl, f2, f3, f4⟩
        clear hC f0 f1 f2 f3 f4
        simp only [execOp]; rw [E4]; go_simp
      · intro d u wx hd0 hd hF
        obtain ⟨hL, hC, f0, f1, f2, f3, f4⟩ := hF
        refine Wpv.env fun ρ hin hout hcon hfun => ?_
        have E17 := (hin 17 (by kernel_rfl)).trans (f1 (hd.get (j := 1) (by kernel_rfl)))
        clear hin hout
        have cw := hC hd0
        have zz := hL.sz
        have nd4 : d 4 = false := by cases hq : d 4 with | false => rfl | true => exact absurd (f4 hq).1 (by rw [hd0]; simp)
        refine Wpv.enter (f := 27) (args := #[.pointer (some ⟨w1.heap.size, 0, none⟩)]) (w' := wx) (by clear hC f0 f1 f2 f3 f4; go_simp) (l2bent_any w.heap.size w1.heap.size a len cap wx (by omega) cw) ?_
        rintro e' w' ⟨ub, tb, rfl, tu, hlb, cu', g'⟩
        obtain ⟨ab, kb, rfl, lb, bb⟩ := tu.shape
        exact ⟨_, rfl, ⟨hL.grow g' (by omega) (by omega) (by omega) (by omega) (by omega), (fun (q : true = false) => by cases q), f0, f1, fun _ => ⟨ab, kb, tb, rfl, tu.mono zz (Nat.le_refl _), hlb⟩, fun q => gck g' (f3 q) (by omega), (fun (q : d 4 = true) => by rw [nd4] at q; cases q)⟩⟩
      · intro d u wx hd0 hd hF
        obtain ⟨hL, hC, f0, f1, f2, f3, f4⟩ := hF
        refine Wpv.env fun ρ hin hout hcon hfun => ?_
        have E2 : ρ (.tmp 2) = .pointer (some ⟨w.heap.size, 0, none⟩) := (hout 2 (by kernel_rfl)).trans (by kernel_rfl)
        have E16 := (hin 16 (by kernel_rfl)).trans (f0 (hd.get (j := 0) (by kernel_rfl)))
        clear hin hout
        obtain ⟨z0, c0⟩ := hL.p0
        have k0 := hL.q0
        refine Wpv.skip (w' := wx.setCell ⟨w.heap.size, 0, none⟩ (.slice au ts.length ku)) (by clear hC f0 f1 f2 f3 f4; go_simp) ?_
        exact ⟨hL.set (.inl rfl) (by omega) (by omega), fun q => cur_set (hC q) (Nat.le_refl _) (by omega), f0, f1, fun q => (f2 q).set (by omega), fun _ => World.cell?_setCell_same' _ _ _ (by rw [c0]; rfl), fun q => by obtain ⟨h1, z, h2, h3⟩ := f4 q; exact ⟨h1, z, h2, (World.cell?_setCell_other _ _ _ _ (by first | (simp; done) | (simp; omega))).trans h3⟩⟩
      · intro d u wx hd0 hd hF
        obtain ⟨hL, hC, f0, f1, f2, f3, f4⟩ := hF
        refine Wpv.env fun ρ hin hout hcon hfun => ?_
        have E3 : ρ (.tmp 3) = .pointer (some ⟨w.heap.size + 1, 0, none⟩) := (hout 3 (by kernel_rfl)).trans (by kernel_rfl)
        have e2 := f2 (hd.get (j := 2) (by kernel_rfl))
        obtain ⟨ab, kb, tb, eu, tu, hlb⟩ := id e2
        have E18 := (hin 18 (by kernel_rfl)).trans eu
        clear hin hout
        obtain ⟨z0, c0⟩ := hL.p1
        have k0 := hL.q1
        have dd2 := hd.get (j := 2) (by kernel_rfl)
        refine Wpv.skip (w' := wx.setCell ⟨w.heap.size + 1, 0, none⟩ (.slice ab tb.length kb)) (by clear hC f0 f1 f2 f3 f4 e2; go_simp) ?_
        exact ⟨hL.set (.inr rfl) (by omega) (by omega), (fun (q : d 2 = false) => absurd dd2 (by rw [q]; simp)), f0, f1, fun _ => e2.set (by omega), fun q => (World.cell?_setCell_other _ _ _ _ (by first | (simp; done) | (simp; omega))).trans (f3 q), fun _ => ⟨dd2, _, eu, World.cell?_setCell_same' _ _ _ (by rw [c0]; rfl)⟩⟩
    · intro d u wc hall hF
      obtain ⟨hL, hC, f0, f1, f2, f3, f4⟩ := hF
      obtain ⟨ab, kb, tb, eu, tu, hlb⟩ := f2 (hall 2 (by decide))
      obtain ⟨z, ez, cz⟩ := (f4 (hall 4 (by decide))).2
      have hz : z = .slice ab tb.length kb := by rw [eu] at ez; simpa using ez.symm
      subst hz
      have cA := f3 (hall 3 (by decide))
      have be9 := g6.trans hL.be
      have sz9 := hL.sz
      have T9 := Lib.hid (And.intro hL.t tu)
      have lt9 : w.heap.size < wc.heap.size := by omega
      have lt9' : w.heap.size + 1 < wc.heap.size := by omega
      clear hL tu f0 f1 f2 f3 f4 hC hall ez eu
      simp only [setF, List.foldl_cons, List.foldl_nil, Act.put, List.setIfInBounds_toArray, List.set_cons_zero, List.set_cons_succ]
      go_wp2_with fail
      exact bodyPost_ret (v := .tuple #[.agg #[.slice au ts.length ku], .agg #[.slice ab tb.length kb]]) (by simp [results, Try.results42, go_sem, cA, cz]) rfl ⟨_, _, ts, tb, rfl, T9.out.1.mono (by omega) (by omega), T9.out.2.mono (by omega) (by omega), hl, hlb, be9⟩
  · go_wp2_with fail
    refine wp_region_drawn [12, 13, 14, 15] (fun d u wx => LA w.heap.size w1.heap.size w3.heap.size w2.heap.size w3.heap.size (.slice au ts.length ku) ts w5.drew wx ∧ (d 0 = true → u 12 = .agg #[.slice au ts.length ku]) ∧ (d 1 = true → u 13 = .agg #[.slice au ts.length ku]) ∧ (d 2 = true → NewT w5.drew.heap.size wx (u 14)) ∧ (d 3 = true → NewU w5.drew.heap.size wx (u 15)) ∧ (d 4 = true → wx.cell? ⟨w.heap.size, 0, none⟩ = some (.slice au ts.length ku)) ∧ (d 5 = true → d 3 = true ∧ ∃ z, u 15 = .agg #[z] ∧ wx.cell? ⟨w.heap.size + 1, 0, none⟩ = some z)) (by kernel_rfl) (by kernel_rfl) (by kernel_rfl) ?_ ?_ ?_
    · intro u; exact ⟨A6, vac0 rfl, vac0 rfl, vac0 rfl, vac0 rfl, vac0 rfl, vac0 rfl⟩
    · refine ⟨?_, ?_, ?_, ?_, ?_, ?_, trivial⟩
      · intro d u wx hd0 hd hF
        obtain ⟨hL, f0, f1, f2, f3, f4, f5⟩ := hF
        refine Wpv.env fun ρ hin hout hcon hfun => ?_
        have E5 : ρ (.tmp 5) = .pointer (some ⟨w3.heap.size, 0, none⟩) := (hout 5 (by kernel_rfl)).trans (by kernel_rfl)
        clear hin hout
        have c0 := hL.c5
        refine Wpv.value (v := .agg #[.slice au ts.length ku]) (w' := wx) ?_ ⟨hL, fun _ => rfl, f1, f2, f3, f4, f5⟩
        clear f0 f1 f2 f3 f4 f5
        simp only [execOp]; rw [E5]; go_simp
      · intro d u wx hd0 hd hF
        obtain ⟨hL, f0, f1, f2, f3, f4, f5⟩ := hF
        refine Wpv.env fun ρ hin hout hcon hfun => ?_
        have E5 : ρ (.tmp 5) = .pointer (some ⟨w3.heap.size, 0, none⟩) := (hout 5 (by kernel_rfl)).trans (by kernel_rfl)
        clear hin hout
        have c0 := hL.c5
        refine Wpv.value (v := .agg #[.slice au ts.length ku]) (w' := wx) ?_ ⟨hL, f0, fun _ => rfl, f2, f3, f4, f5⟩
        clear f0 f1 f2 f3 f4 f5
        simp only [execOp]; rw [E5]; go_simp
      · intro d u wx hd0 hd hF
        obtain ⟨hL, f0, f1, f2, f3, f4, f5⟩ := hF
        refine Wpv.env fun ρ hin hout hcon hfun => ?_
        have E13 := (hin 13 (by kernel_rfl)).trans (f1 (hd.get (j := 1) (by kernel_rfl)))
        clear hin hout
        have zz := hL.sz
        refine Wpv.enter (f := 48) (args := #[.agg #[.slice au ts.length ku]]) (w' := wx) (by clear f0 f1 f2 f3 f4 f5; go_simp) (l2own_any _ _ _ _ ts wx hL.t (by omega) (by omega)) ?_
        rintro e' w' ⟨ub, rfl, g', tu⟩
        obtain ⟨ab, kb, rfl, lb, bb⟩ := tu.shape
        have g9 : wx.grownBy w' (some w1.heap.size) := grown_below g'
        exact ⟨_, rfl, ⟨hL.grow g9 (by omega) (by omega) (by omega) (by omega) (by omega), f0, f1, fun _ => ⟨ab, kb, ts, rfl, tu.mono zz (Nat.le_refl _), hl, HBD.out⟩, fun q => (f3 q).keep g', fun q => gck g9 (f4 q) (by omega), fun q => by obtain ⟨h1, z, h2, h3⟩ := f5 q; exact ⟨h1, z, h2, gck g9 h3 (by omega)⟩⟩⟩
      · intro d u wx hd0 hd hF
        obtain ⟨hL, f0, f1, f2, f3, f4, f5⟩ := hF
        refine Wpv.env fun ρ hin hout hcon hfun => ?_
        have e2 := f2 (hd.get (j := 2) (by kernel_rfl))
        obtain ⟨a2, k2, t2, eu, tu2, hl2, hb2⟩ := id e2
        have E14 := (hin 14 (by kernel_rfl)).trans eu
        clear hin hout
        have zz := hL.sz
        have nd5 : d 5 = false := by cases hq : d 5 with | false => rfl | true => exact absurd (f5 hq).1 (by rw [hd0]; simp)
        refine Wpv.enter (f := 47) (args := #[.agg #[.slice a2 t2.length k2], .int .i64 2147483646]) (w' := wx) (by clear f0 f1 f2 f3 f4 f5 e2; go_simp) (l2times_odd _ _ _ _ t2 2147483646 wx tu2 (Nat.le_refl _) (by omega) (by omega) hb2 (by omega)) ?_
        rintro e' w' ⟨ub, tb, rfl, g', tu, hlb⟩
        obtain ⟨ab, kb, rfl, lb, bb⟩ := tu.shape
        have g9 : wx.grownBy w' (some w1.heap.size) := grown_below g'
        exact ⟨_, rfl, ⟨hL.grow g9 (by omega) (by omega) (by omega) (by omega) (by omega), f0, f1, fun q => (f2 q).keep g', fun _ => ⟨ab, kb, tb, rfl, tu.mono zz (Nat.le_refl _), by omega⟩, fun q => gck g9 (f4 q) (by omega), (fun (q : d 5 = true) => by rw [nd5] at q; cases q)⟩⟩
      · intro d u wx hd0 hd hF
        obtain ⟨hL, f0, f1, f2, f3, f4, f5⟩ := hF
        refine Wpv.env fun ρ hin hout hcon hfun => ?_
        have E2 : ρ (.tmp 2) = .pointer (some ⟨w.heap.size, 0, none⟩) := (hout 2 (by kernel_rfl)).trans (by kernel_rfl)
        have E12 := (hin 12 (by kernel_rfl)).trans (f0 (hd.get (j := 0) (by kernel_rfl)))
        clear hin hout
        obtain ⟨z0, c0⟩ := hL.p0
        have k0 := hL.q0
        have zz := hL.sz
        refine Wpv.skip (w' := wx.setCell ⟨w.heap.size, 0, none⟩ (.slice au ts.length ku)) (by clear f0 f1 f2 f3 f4 f5; go_simp) ?_
        exact ⟨hL.set (.inl rfl) (by omega) (by omega), f0, f1, fun q => (f2 q).set (by omega), fun q => (f3 q).set (by omega), fun _ => World.cell?_setCell_same' _ _ _ (by rw [c0]; rfl), fun q => by obtain ⟨h1, z, h2, h3⟩ := f5 q; exact ⟨h1, z, h2, (World.cell?_setCell_other _ _ _ _ (by first | (simp; done) | (simp; omega))).trans h3⟩⟩
      · intro d u wx hd0 hd hF
        obtain ⟨hL, f0, f1, f2, f3, f4, f5⟩ := hF
        refine Wpv.env fun ρ hin hout hcon hfun => ?_
        have E3 : ρ (.tmp 3) = .pointer (some ⟨w.heap.size + 1, 0, none⟩) := (hout 3 (by kernel_rfl)).trans (by kernel_rfl)
        have e2 := f3 (hd.get (j := 3) (by kernel_rfl))
        obtain ⟨ab, kb, tb, eu, tu, hlb⟩ := id e2
        have E15 := (hin 15 (by kernel_rfl)).trans eu
        clear hin hout
        obtain ⟨z0, c0⟩ := hL.p1
        have k0 := hL.q1
        have dd2 := hd.get (j := 3) (by kernel_rfl)
        refine Wpv.skip (w' := wx.setCell ⟨w.heap.size + 1, 0, none⟩ (.slice ab tb.length kb)) (by clear f0 f1 f2 f3 f4 f5 e2; go_simp) ?_
        exact ⟨hL.set (.inr rfl) (by omega) (by omega), f0, f1, fun q => (f2 q).set (by omega), fun _ => e2.set (by omega), fun q => (World.cell?_setCell_other _ _ _ _ (by first | (simp; done) | (simp; omega))).trans (f4 q), fun _ => ⟨dd2, _, eu, World.cell?_setCell_same' _ _ _ (by rw [c0]; rfl)⟩⟩
    · intro d u wc hall hF
      obtain ⟨hL, f0, f1, f2, f3, f4, f5⟩ := hF
      obtain ⟨ab, kb, tb, eu, tu, hlb⟩ := f3 (hall 3 (by decide))
      obtain ⟨z, ez, cz⟩ := (f5 (hall 5 (by decide))).2
      have hz : z = .slice ab tb.length kb := by rw [eu] at ez; simpa using ez.symm
      subst hz
      have cA := f4 (hall 4 (by decide))
      have be9 := g6.trans hL.be
      have sz9 := hL.sz
      have T9 := Lib.hid (And.intro hL.t tu)
      have lt9 : w.heap.size < wc.heap.size := by omega
      have lt9' : w.heap.size + 1 < wc.heap.size := by omega
      clear hL tu f0 f1 f2 f3 f4 f5 hall ez eu
      simp only [setF, List.foldl_cons, List.foldl_nil, Act.put, List.setIfInBounds_toArray, List.set_cons_zero, List.set_cons_succ]
      go_wp2_with fail
      exact bodyPost_ret (v := .tuple #[.agg #[.slice au ts.length ku], .agg #[.slice ab tb.length kb]]) (by simp [results, Try.results42, go_sem, cA, cz]) rfl ⟨_, _, ts, tb, rfl, T9.out.1.mono (by omega) (by omega), T9.out.2.mono (by omega) (by omega), hl, hlb, be9⟩
end Go.Proofs.Ytoeklalhbkdjnaa.L
