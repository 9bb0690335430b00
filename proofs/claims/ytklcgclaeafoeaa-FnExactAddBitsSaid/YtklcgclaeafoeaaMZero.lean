/- The model's l4zero. -/
import Derived.Test.YtklcgclaeafoeaaB15
import Derived.Test.YtklcgclaeafoeaaMGate2
import Derived.Test.YtklcgclaeafoeaaB17
import Derived.Test.YtklcgclaeafoeaaB3
import Derived.Deep.DeepCutAuto
namespace Go.Proofs.Ytklcgclaeafoeaa.L
open Go.RowKit Go.Proofs.Ytklcgclaeafoeaa.S
set_option linter.unusedVariables false
set_option linter.unusedSimpArgs false

theorem nopm {a : Bool} {p : Prop} (h : a = false) : a = true → p := fun q => by rw [h] at q; cases q
/-- 'z := pure(pure, ..)' in whatever order: d0: the constant; d2: the difference; d3: the box; (behind the store: CutY). -/
def YR (C F : List T) (X : World) (d0 d2 d3 : Bool) (u16 u18 u7 : Value) (w : World) : Prop :=
  Below X.heap.size X w ∧
    (d0 = true → ∃ a k, u16 = .agg #[.slice a C.length k] ∧ Terms true X.heap.size w.heap.size w (.slice a C.length k) C) ∧
    (d2 = true → ∃ a k l h, u18 = .agg #[.slice a F.length k] ∧ Terms true l h w (.slice a F.length k) F ∧ X.heap.size ≤ l ∧ h ≤ w.heap.size ∧ (d3 = true → ∀ g6, u7 = .pointer (some ⟨g6, 0, none⟩) → g6 < l ∨ h ≤ g6)) ∧
    (d3 = true → ∃ g6 z, u7 = .pointer (some ⟨g6, 0, none⟩) ∧ X.heap.size ≤ g6 ∧ g6 < w.heap.size ∧ w.cell? ⟨g6, 0, none⟩ = some z ∧ w.frozen? ⟨g6, 0, none⟩ = false)
def CutY (F : List T) (X : World) (s7 : Value) (w : World) : Prop :=
  ∃ g6 a k l h, s7 = .pointer (some ⟨g6, 0, none⟩) ∧ Below X.heap.size X w ∧ X.heap.size ≤ g6 ∧ g6 < w.heap.size ∧ w.cell? ⟨g6, 0, none⟩ = some (.slice a F.length k) ∧ Terms true l h w (.slice a F.length k) F ∧ X.heap.size ≤ l ∧ h ≤ w.heap.size ∧ (g6 < l ∨ h ≤ g6)
section
variable {C F : List T} {X : World} {d0 d2 d3 : Bool} {u16 u18 u7 : Value} {w w' : World}
theorem YR.start : YR C F X false false false u16 u18 u7 X := ⟨Below.refl _ _, fun h => (by cases h), fun h => (by cases h), fun h => (by cases h)⟩
theorem YR.const {a : Option Addr} {k : Nat} (Z : YR C F X d0 d2 d3 u16 u18 u7 w) (f : Below w.heap.size w w') (t : Terms true w.heap.size w'.heap.size w' (.slice a C.length k) C) : YR C F X true d2 d3 (.agg #[.slice a C.length k]) u18 u7 w' := by
  obtain ⟨b, c0, c2, c3⟩ := Z
  have zb := b.size
  have zf := f.size
  refine ⟨b.trans (f.mono zb), fun _ => ⟨a, k, rfl, t.mono zb (Nat.le_refl _)⟩, fun h => ?_, fun h => ?_⟩
  · obtain ⟨a', k', l, hh, e, t', x1, x2, x4⟩ := c2 h; exact ⟨a', k', l, hh, e, t'.keep f x2, x1, by omega, x4⟩
  · obtain ⟨g6, z, e, x1, x2, x4, x5⟩ := c3 h; exact ⟨g6, z, e, x1, by omega, cell_keep f x4, (f.frozen (p := ⟨g6, 0, none⟩) x2).trans x5⟩
theorem YR.diff {a : Option Addr} {k : Nat} (Z : YR C F X d0 d2 d3 u16 u18 u7 w) (f : Below w.heap.size w w') (t : Terms true w.heap.size w'.heap.size w' (.slice a F.length k) F) : YR C F X d0 true d3 u16 (.agg #[.slice a F.length k]) u7 w' := by
  obtain ⟨b, c0, c2, c3⟩ := Z
  have zb := b.size
  have zf := f.size
  refine ⟨b.trans (f.mono zb), fun h => ?_, fun _ => ⟨a, k, w.heap.size, w'.heap.size, rfl, t, zb, Nat.le_refl _, fun h g6 e6 => ?_⟩, fun h => ?_⟩
  · obtain ⟨a', k', e, t'⟩ := c0 h; exact ⟨a', k', e, (t'.keep f (Nat.le_refl _)).mono (Nat.le_refl _) zf⟩
  · obtain ⟨g6', z, e, x1, x2, -⟩ := c3 h
    rw [e] at e6; simp at e6; omega
  · obtain ⟨g6, z, e, x1, x2, x4, x5⟩ := c3 h; exact ⟨g6, z, e, x1, by omega, cell_keep f x4, (f.frozen (p := ⟨g6, 0, none⟩) x2).trans x5⟩
theorem YR.box {z : Value} {t : TypeId} (Z : YR C F X d0 d2 d3 u16 u18 u7 w) : YR C F X d0 d2 true u16 u18 (.pointer (some ⟨w.heap.size, 0, none⟩)) (w.alloc (.cells #[z] t)) := by
  obtain ⟨b, c0, c2, c3⟩ := Z
  have f : Below w.heap.size w (w.alloc (.cells #[z] t)) := (Below.refl _ _).alloc (Nat.le_refl _) _
  have zb := b.size
  have zf := f.size
  refine ⟨b.trans (f.mono zb), fun h => ?_, fun h => ?_, fun _ => ⟨w.heap.size, z, rfl, zb, by simp, by simp, by simp⟩⟩
  · obtain ⟨a', k', e, t'⟩ := c0 h; exact ⟨a', k', e, (t'.keep f (Nat.le_refl _)).mono (Nat.le_refl _) zf⟩
  · obtain ⟨a', k', l, hh, e, t', x1, x2, x4⟩ := c2 h
    exact ⟨a', k', l, hh, e, t'.keep f x2, x1, by omega, fun _ g6 e6 => by simp at e6; omega⟩
theorem YR.pre (Z : YR C F X d0 d2 d3 u16 u18 u7 w) (h2 : d2 = true) (h3 : d3 = true) : ∃ g6 z a k, u7 = .pointer (some ⟨g6, 0, none⟩) ∧ u18 = .agg #[.slice a F.length k] ∧ w.cell? ⟨g6, 0, none⟩ = some z ∧ w.frozen? ⟨g6, 0, none⟩ = false ∧ g6 < w.heap.size := by
  obtain ⟨b, c0, c2, c3⟩ := Z
  obtain ⟨a', k', l, hh, e, t', x1, x2, x4⟩ := c2 h2
  obtain ⟨g6, z, e6, y1, y2, y4, y5⟩ := c3 h3
  exact ⟨g6, z, a', k', e6, e, y4, y5, y2⟩
theorem YR.store {g6 : Nat} {a : Option Addr} {k : Nat} (Z : YR C F X d0 d2 d3 u16 u18 u7 w) (h2 : d2 = true) (h3 : d3 = true) (e6 : u7 = .pointer (some ⟨g6, 0, none⟩)) (e16 : u18 = .agg #[.slice a F.length k]) :
    CutY F X u7 (w.setCell ⟨g6, 0, none⟩ (.slice a F.length k)) := by
  obtain ⟨b, c0, c2, c3⟩ := Z
  obtain ⟨a', k', l, hh, e, t', x1, x2, x4⟩ := c2 h2
  obtain ⟨g6', z, e6', y1, y2, y4, y5⟩ := c3 h3
  rw [e6'] at e6; simp at e6; subst e6
  rw [e] at e16; simp at e16; obtain ⟨rfl, rfl⟩ := e16
  have hd := x4 h3 _ e6'
  refine ⟨g6', a', k', l, hh, e6', b.setCell y1 _, y1, by simpa [World.setCell] using y2, World.cell?_setCell_same _ _ _ y4, ?_, x1, by simpa [World.setCell] using x2, hd⟩
  exact t'.only (lo := g6') (hi := g6' + 1) (Only.setCell (p := ⟨g6', 0, none⟩) (Only.refl _ _ w) (Nat.le_refl _) (Nat.lt_succ_self _) _) (by omega) x2
end

set_option maxRecDepth 100000 in
set_option maxHeartbeats 6400000 in
theorem zero_spec (base g : Nat) (t : SysC) (Q A Gx : Nat → Prop) (ox : Bool) (vx : Value) (x : List T) (w : World) (M : Mdl base g t Q A w) (hb : base ≤ w.heap.size) (tx : TermsF ox Gx w vx x) (hG : ∀ k, Gx k → k < w.heap.size ∧ ¬ Q k)
    (nx : x.length ≤ 500000) (i0 : 0 ≤ t.ins) (i1 : t.ins ≤ 100) (nh : t.hints.length ≤ 900000) (nc : t.cons.length ≤ 900000) :
    Calls Try.prog 28 #[.pointer (some ⟨g, 0, none⟩), .agg #[vx]] w (RetM base g (zeroS t x) (zeroZ t x) Q A Gx w) := by
  obtain ⟨ax, kx, rfl, lx, mx⟩ := tx.shape
  have LQ := Lib.hid M.lim
  have EL := Lib.hid M.els
  have HG := Lib.hid hG
  have NQ : Hid (∀ i, w.heap.size ≤ i → ¬ Q i) := Lib.hid fun i hi q => by have := LQ.out i q; omega
  clear hG
  go_enter Try.func28, Try.ntmps28
  go_wp2_with fail
  refine name_call fun w1 hw1 => ?_
  have e1 : Below w.heap.size w w1 := by rw [hw1]; (repeat (with_reducible first | exact bR _ _ | assumption | refine bD ?_ | refine bN ?_ _ | refine bA ?_ _ | refine bS ?_ _))
  have z1 : w.heap.size + 2 ≤ w1.heap.size := by rw [hw1]; simp
  have cx1 : w1.cell? ⟨w.heap.size, 0, none⟩ = some (.slice ax x.length kx) := by rw [hw1]; first | (simp; done) | go_simp
  have cR1 : w1.cell? ⟨w.heap.size + 1, 0, none⟩ = some (.slice none 0 0) := by rw [hw1]; first | (simp; done) | go_simp
  have fR1 : w1.frozen? ⟨w.heap.size + 1, 0, none⟩ = false := by rw [hw1]; first | (simp; done) | go_simp
  clear hw1
  have X1 : Ext Q Q w w1 := .of_below e1
  have tx1 := tx.agree (SameF.of_below e1 (fun k q => (HG.out k q).1))
  refine (hint_spec base g t Q A Gx 2 0 ox true _ _ x [] w1 (M.below e1) (by omega) tx1 (TermsF.nil _ _ _) (fun k q => ⟨by have := (HG.out k q).1; omega, (HG.out k q).2⟩) i0 i1 (by omega) (by unfold Fits; omega) (by unfold Fits; omega)).mono ?_
  rintro e w2 ⟨u2, Q2, A2, rfl, M2, N2, X2, E2⟩
  obtain ⟨p2, k2, rfl, l2, b2⟩ := N2.shape
  have z2 := X2.size
  have cx2 := (X2.cell (b := w.heap.size) (by omega) (NQ.out _ (Nat.le_refl _)) 0).trans cx1
  have cR2 := (X2.cell (b := w.heap.size + 1) (by omega) (NQ.out _ (by omega)) 0).trans cR1
  have fR2 := (X2.frozen (b := w.heap.size + 1) (by omega) (NQ.out _ (by omega)) 0).trans fR1
  have nx2 := X2.not (b := w.heap.size) (by omega) (NQ.out _ (Nat.le_refl _))
  have nR2 := X2.not (b := w.heap.size + 1) (by omega) (NQ.out _ (by omega))
  have X12 := X1.trans X2
  have lx2 : w.heap.size < w2.heap.size := by omega
  have tx2 := tx.agree (X12.only.same (fun k q => HG.out k q))
  have G2 : Hid (∀ k, Gx k → k < w2.heap.size ∧ ¬ Q2 k) := Lib.hid fun k q => ⟨by have := (HG.out k q).1; omega, X12.not (HG.out k q).1 (HG.out k q).2⟩
  clear cx1 cR1 fR1 X1 X2 tx1
  go_wp2_with fail
  refine name_call fun w3 hw3 => ?_
  have e3 : Below w2.heap.size w2 w3 := by rw [hw3]; (repeat (with_reducible first | exact bR _ _ | assumption | refine bD ?_ | refine bN ?_ _ | refine bA ?_ _ | refine bS ?_ _))
  have z3 : w2.heap.size + 1 ≤ w3.heap.size := by rw [hw3]; simp
  have cI3 : w3.cell? ⟨w2.heap.size, 0, none⟩ = some (.slice p2 (sVar t).length k2) := by rw [hw3]; first | (simp; done) | go_simp
  clear hw3
  have L2 := Lib.hid M2.lim
  have nI : ¬ Q2 w2.heap.size := fun q => by have := L2.out _ q; omega
  have X23 : Ext Q2 Q2 w2 w3 := Ext.of_below e3
  have cx3 := cell_keep e3 cx2
  have cR3 := cell_keep e3 cR2
  have fR3 := (e3.frozen (p := ⟨w.heap.size + 1, 0, none⟩) (show w.heap.size + 1 < w2.heap.size by omega)).trans fR2
  have tx3 := tx2.agree (SameF.of_below e3 (fun k q => (G2.out k q).1))
  have N3 := N2.ext X23
  have X13 := X12.trans X23
  clear cx2 cR2 fR2 e1 M N2
  refine (mul_spec base g (sHint t ⟨2, x, [], 0⟩) Q2 A2 (fun k => Gx k ∨ (w1.heap.size ≤ k ∧ k < w3.heap.size ∧ ¬ Q2 k)) ox true _ _ x (sVar t) w3 (M2.below e3) (by omega) (tx3.mono (fun k q => .inl q)) (N3.mono (fun k q => .inr q)) (fun k q => by rcases q with q | q; exact ⟨by have := (G2.out k q).1; omega, (G2.out k q).2⟩; exact ⟨q.2.1, q.2.2⟩) i0 i1 (by show (t.hints ++ _).length ≤ _; simp; omega) (by show t.cons.length ≤ _; omega)).mono ?_
  rintro e w4 ⟨u4, Q4, A4, rfl, M4, N4, X4, E4⟩
  obtain ⟨p4, k4, rfl, l4, b4⟩ := N4.shape
  have z4 := X4.size
  have cx4 := (X4.cell (b := w.heap.size) (by omega) nx2 0).trans cx3
  have cR4 := (X4.cell (b := w.heap.size + 1) (by omega) nR2 0).trans cR3
  have fR4 := (X4.frozen (b := w.heap.size + 1) (by omega) nR2 0).trans fR3
  have nx4 := X4.not (b := w.heap.size) (by omega) nx2
  have nR4 := X4.not (b := w.heap.size + 1) (by omega) nR2
  have X14 := X13.trans X4
  have lx4 : w.heap.size < w4.heap.size := by omega
  have L4 := Lib.hid M4.lim
  have nI4 : ¬ Q4 w4.heap.size := fun q => by have := L4.out _ q; omega
  clear cx3 cR3 fR3 cI3 e3 M2 N3 tx3 tx2 X23 X13 X12
  go_wp2_with fail
  refine name_wp fun w5 hw5 => ?_
  have e5 : Below w4.heap.size w4 w5 := by rw [hw5]; (repeat (with_reducible first | exact bR _ _ | assumption | refine bD ?_ | refine bN ?_ _ | refine bA ?_ _ | refine bS ?_ _))
  have z5 : w4.heap.size + 1 ≤ w5.heap.size := by rw [hw5]; simp
  have cM5 : w5.cell? ⟨w4.heap.size, 0, none⟩ = some (.slice p4 (sVar (sHint t ⟨2, x, [], 0⟩)).length k4) := by rw [hw5]; first | (simp; done) | go_simp
  clear hw5
  generalize hd : w5.drew = wd
  have ed : Below w5.heap.size w5 wd := by rw [← hd]; exact (Below.refl _ _).drew
  have zd := ed.size
  have e4d : Below w4.heap.size w4 wd := e5.trans (ed.mono (by omega))
  have X4d : Ext Q4 Q4 w4 wd := Ext.of_below e4d
  have cx := cell_keep e4d cx4
  have cR := cell_keep e4d cR4
  have fR := (e4d.frozen (p := ⟨w.heap.size + 1, 0, none⟩) (show w.heap.size + 1 < w4.heap.size by omega)).trans fR4
  have cM := cell_keep ed cM5
  have MM := Lib.hid (M4.below e4d)
  have NN := Lib.hid (N4.ext X4d)
  have X1d := Lib.hid (X14.trans X4d)
  clear e5 ed cx4 cR4 fR4 cM5 M4 N4 X14 X4d e4d
  subst hd
  go_cut [7] (fun s7 wx => CutY (zeroZ t x) w5.drew s7 wx)
  case first =>
    rename_i J K' hJ hK
    refine wp_region_drawn [7, 16, 17, 18] (fun d u wx => (d 2 = true → d 0 = true ∧ d 1 = true) ∧ (d 4 = true → d 2 = true ∧ d 3 = true) ∧ (d 1 = true → u 17 = .agg #[.slice p4 (sVar (sHint t ⟨2, x, [], 0⟩)).length k4]) ∧
      (d 4 = false → YR (constOf 1) (zeroZ t x) w5.drew (d 0) (d 2) (d 3) (u 16) (u 18) (u 7) wx) ∧ (d 4 = true → CutY (zeroZ t x) w5.drew (u 7) wx)) (by kernel_rfl) (by kernel_rfl) (by kernel_rfl) ?_ ?_ ?_
    · intro u; exact ⟨fun h => (by cases h), fun h => (by cases h), fun h => (by cases h), fun _ => YR.start, fun h => (by cases h)⟩
    · refine ⟨?_, ?_, ?_, ?_, ?_, trivial⟩
      · intro d u wx h0 hdp hF
        obtain ⟨g2, g4, f1, fZ, fC⟩ := hF
        have n2 : d 2 = false := by cases h : d 2; rfl; have := (g2 h).1; rw [show d 0 = false from h0] at this; cases this
        have n4 : d 4 = false := by cases h : d 4; rfl; have := (g4 h).1; rw [n2] at this; cases this
        refine Wpv.env fun ρ hin hout hcon hfun => ?_
        clear hin hout
        have Z := fZ n4
        refine Wpv.enter (f := 61) (args := #[.int .i64 1]) (w' := wx) (by clear Z fZ f1 fC; simp only [execOp]; first | (rw [hcon]; go_simp) | go_simp) (l2const_any 1 wx (by omega) (by omega)) ?_
        rintro e' w' ⟨a1, rfl, j1, t1⟩
        obtain ⟨p, k, rfl, -⟩ := t1.shape
        exact ⟨_, rfl, ⟨nopm n2, nopm n4, f1, fun _ => Z.const j1 t1, nopm n4⟩⟩
      · intro d u wx h0 hdp hF
        obtain ⟨g2, g4, f1, fZ, fC⟩ := hF
        have n2 : d 2 = false := by cases h : d 2; rfl; have := (g2 h).2; rw [show d 1 = false from h0] at this; cases this
        have n4 : d 4 = false := by cases h : d 4; rfl; have := (g4 h).1; rw [n2] at this; cases this
        refine Wpv.env fun ρ hin hout hcon hfun => ?_
        have E6 : ρ (.tmp 6) = .pointer (some ⟨w4.heap.size, 0, none⟩) := (hout 6 (by kernel_rfl)).trans (by kernel_rfl)
        clear hin hout
        have c0 := cell_keep (fZ n4).1 cM
        refine Wpv.value (v := .agg #[.slice p4 (sVar (sHint t ⟨2, x, [], 0⟩)).length k4]) (w' := wx) ?_ ⟨nopm n2, nopm n4, fun _ => rfl, fZ, nopm n4⟩
        clear fZ f1 fC
        simp only [execOp]; rw [E6]; go_simp
      · intro d u wx h0 hdp hF
        obtain ⟨g2, g4, f1, fZ, fC⟩ := hF
        have n4 : d 4 = false := by cases h : d 4; rfl; have := (g4 h).1; rw [show d 2 = false from h0] at this; cases this
        have D0 : d 0 = true := hdp.get (j := 0) (by kernel_rfl)
        have D1 : d 1 = true := hdp.get (j := 1) (by kernel_rfl)
        refine Wpv.env fun ρ hin hout hcon hfun => ?_
        have E16 := hin 16 (by kernel_rfl)
        have E17 := (hin 17 (by kernel_rfl)).trans (f1 D1)
        clear hin hout
        have Z := fZ n4
        obtain ⟨bz, c0, -⟩ := id Z
        obtain ⟨a1, k1, e1, o1⟩ := c0 D0
        have y1 := E16.trans e1
        have zz := bz.size
        have RN := NewL.read (NN.out.ext (Ext.of_below bz))
        refine Wpv.enter (f := 60) (args := #[.agg #[.slice a1 (constOf 1).length k1], .agg #[.slice p4 (sVar (sHint t ⟨2, x, [], 0⟩)).length k4]]) (w' := wx) (by clear Z fZ f1 fC c0 E16 e1 o1 RN; go_simp) (l2sub_wide _ _ _ _ (constOf 1) _ _ _ _ (sVar (sHint t ⟨2, x, [], 0⟩)) wx o1 (Nat.le_refl _) RN (Nat.le_refl _) KIn.const1 (KIn.sVar _) (Nat.le_trans (constOf_len _) (by omega)) (by simp [sVar])) ?_
        rintro e' w' ⟨a3, rfl, j1, t1⟩
        obtain ⟨p, k, rfl, -⟩ := t1.shape
        exact ⟨_, rfl, ⟨fun _ => ⟨D0, D1⟩, nopm n4, f1, fun _ => YR.diff (F := zeroZ t x) Z j1 t1, nopm n4⟩⟩
      · intro d u wx h0 hdp hF
        obtain ⟨g2, g4, f1, fZ, fC⟩ := hF
        have n4 : d 4 = false := by cases h : d 4; rfl; have := (g4 h).2; rw [show d 3 = false from h0] at this; cases this
        refine Wpv.env fun ρ hin hout hcon hfun => ?_
        clear hin hout
        have Z := fZ n4
        refine Wpv.value (v := .pointer (some ⟨wx.heap.size, 0, none⟩)) (w' := wx.alloc (.cells #[.slice none 0 0] 39)) (by clear f1 fZ fC g4 g2 Z; go_simp) ⟨g2, nopm n4, f1, fun _ => Z.box, nopm n4⟩
      · intro d u wx h0 hdp hF
        obtain ⟨g2, g4, f1, fZ, fC⟩ := hF
        have D2 : d 2 = true := hdp.get (j := 2) (by kernel_rfl)
        have D3 : d 3 = true := hdp.get (j := 3) (by kernel_rfl)
        refine Wpv.env fun ρ hin hout hcon hfun => ?_
        have E7 := hin 7 (by kernel_rfl)
        have E18 := hin 18 (by kernel_rfl)
        clear hin hout
        have Z := fZ h0
        obtain ⟨g6, z, a, k, e6, e16, c6, r6, lt6⟩ := Z.pre D2 D3
        have y1 := E7.trans e6
        have y2 := E18.trans e16
        have fin := Z.store D2 D3 e6 e16
        refine Wpv.skip (w' := wx.setCell ⟨g6, 0, none⟩ (.slice a (zeroZ t x).length k)) (by clear fin Z fZ f1 fC g2 g4 e6 e16 E7 E18; go_simp) ?_
        exact ⟨g2, fun _ => ⟨D2, D3⟩, f1, fun h => (by cases h), fun _ => fin⟩
    · intro d u wx hall hF
      obtain ⟨g2, g4, f1, fZ, fC⟩ := hF
      have fD := fC (hall 4 (by decide))
      clear g2 g4 f1 fZ fC
      refine hK _ _ (Met.intro (hJ _ _ ?_))
      simp only [setF, List.foldl_cons, List.foldl_nil, Act.put, List.setIfInBounds_toArray, List.set_cons_zero, List.set_cons_succ]
      repeat apply Exists.intro
      exact ⟨fD, rfl⟩
  obtain ⟨g6, a6, k6, l6, h6, rfl, bc, y1, y2, y4, T6, x1, x2, x4⟩ := hcut
  have zc := bc.size
  have cxc := cell_keep bc cx
  have cRc := cell_keep bc cR
  have fRc := (bc.frozen (p := ⟨w.heap.size + 1, 0, none⟩) (show w.heap.size + 1 < w5.drew.heap.size by omega)).trans fR
  have lxc : w.heap.size < wc.heap.size := by omega
  have lRc : w.heap.size + 1 < wc.heap.size := by omega
  have NT : Hid (∀ q, l6 ≤ q → q < h6 → ¬ Q4 q) := Lib.hid fun q q1 q2 hq => by have := L4.out q hq; omega
  have Xc : Ext Q4 Q4 w5.drew wc := Ext.of_below bc
  clear cx cR fR cM NN
  go_wp2_with fail
  refine name_call fun w7 hw7 => ?_
  have e7 : Below wc.heap.size wc w7 := by rw [hw7]; (repeat (with_reducible first | exact bR _ _ | assumption | refine bD ?_ | refine bN ?_ _ | refine bA ?_ _ | refine bS ?_ _))
  clear hw7
  have z7 := e7.size
  have X7 : Ext Q4 Q4 wc w7 := Ext.of_below e7
  have X17 := X1d.out.trans (Xc.trans X7)
  have tx7 := tx.agree (X17.only.same (fun k q => HG.out k q))
  have T7 := T6.keep e7 x2
  refine (con_spec base g (mulS (sHint t ⟨2, x, [], 0⟩) x (sVar t)) Q4 A4 (fun k => Gx k ∨ (w1.heap.size ≤ k ∧ k < w7.heap.size ∧ ¬ Q4 k)) ox true true _ _ _ x (zeroZ t x) [] w7 ((MM.out.below bc).below e7) (by omega) (tx7.mono (fun k q => .inl q)) ⟨l6, h6, fun q q1 q2 => .inr ⟨by omega, by omega, NT.out q q1 q2⟩, T7⟩ (TermsF.nil _ _ _) (fun k q => by rcases q with q | q; exact ⟨by have := (HG.out k q).1; omega, X17.not (HG.out k q).1 (HG.out k q).2⟩; exact ⟨q.2.1, q.2.2⟩) (by show (t.cons ++ _).length ≤ _; simp; omega)).mono ?_
  rintro e w8 ⟨Q8, A8, rfl, M8, X8, E8⟩
  have z8 := X8.size
  have X78 := X7.trans X8
  have cZ8 := (X78.cell (b := g6) y2 (fun hq => by have := L4.out _ hq; omega) 0).trans y4
  have cR8 := (X78.cell (b := w.heap.size + 1) lRc nR4 0).trans cRc
  have fR8 := (X78.frozen (b := w.heap.size + 1) lRc nR4 0).trans fRc
  have nR8 := X78.not lRc nR4
  have T8 := T7.agree (show Same l6 h6 w7 w8 from fun q h1 h2 => X8.only.block q (by omega) (NT.out q h1 h2))
  have N8 : ∀ q, l6 ≤ q → q < h6 → ¬ Q8 q := fun q h1 h2 => X8.not (by omega) (NT.out q h1 h2)
  have XF := X17.trans X8
  have hA : ∀ k, A8 k → A k ∨ Gx k ∨ w1.heap.size ≤ k := fun k q => by
    rcases E8 k q with r | r | r
    · rcases E4 k r with r | r | r
      · rcases E2 k r with r | r | r
        · exact .inl r
        · exact .inr (.inl r)
        · exact .inr (.inr r)
      · rcases r with r | r
        · exact .inr (.inl r)
        · exact .inr (.inr r.1)
      · exact .inr (.inr (by omega))
    · rcases r with r | r
      · exact .inr (.inl r)
      · exact .inr (.inr r.1)
    · exact .inr (.inr (by omega))
  have na : ¬ A8 (w.heap.size + 1) := fun q => by
    rcases hA _ q with r | r | r
    · have := (EL.out _ r).1; omega
    · have := (HG.out _ r).1; omega
    · omega
  have lZ8 : g6 < w8.heap.size := by omega
  have lR8 : w.heap.size + 1 < w8.heap.size := by omega
  clear bc T6 T7 X7 X8 X78 X17 tx7 tx e7 y4 cxc cRc fRc MM X1d E8 E4 E2
  go_wp2_with fail
  have T9 := T8.agree (show Same l6 h6 w8 (w8.setCell ⟨w.heap.size + 1, 0, none⟩ (.slice a6 (zeroZ t x).length k6)) from same_set (by omega))
  exact bodyPost_ret (v := .agg #[.slice a6 (zeroZ t x).length k6]) (by simp [results, Try.results28, go_sem, cR8]) rfl (RetM.of rfl rfl (M8.boxed nR8 na) ⟨l6, h6, fun q h1 h2 => ⟨by omega, by simp [World.setCell]; omega, N8 q h1 h2⟩, T9⟩ (ext_boxed XF (by omega)) (fun k q => by rcases hA k q with r | r | r; exact .inl r; exact .inr (.inl r); exact .inr (.inr (by omega))))
end Go.Proofs.Ytklcgclaeafoeaa.L
