/- The model's l4bits. -/
import Derived.Test.YtcenijdaacbgpaaGreatB15
import Derived.Test.YtcenijdaacbgpaaGreatMGate2
import Derived.Test.YtcenijdaacbgpaaGreatPackW
import Derived.Test.YtcenijdaacbgpaaGreatSame5b
import Derived.Deep.DeepCutAuto
namespace Go.Proofs.YtcenijdaacbgpaaGreat.L
open Go.RowKit Go.Proofs.YtcenijdaacbgpaaGreat.S
set_option linter.unusedVariables false
set_option linter.unusedSimpArgs false

theorem bitsK_sizes (t : SysC) (x : List T) (k : Nat) : (bitsK t x k).1.ins = t.ins ∧ (bitsK t x k).1.hints.length = t.hints.length + k ∧ (bitsK t x k).1.cons.length = t.cons.length + k ∧ (bitsK t x k).1.outs = t.outs := by
 induction k with
 | zero => exact ⟨rfl, rfl, rfl, rfl⟩
 | succ k ih =>
  obtain ⟨h1, h2, h3, h4⟩ := ih
  refine ⟨h1, ?_, ?_, h4⟩
  ·show ((bitsK t x k).1.hints ++ [_]).length = _
   simp; omega
  ·show ((bitsK t x k).1.cons ++ [_]).length = _
   simp; omega
theorem bitsK_kin (t : SysC) (x : List T) (k : Nat) : ∀ y ∈ (bitsK t x k).2, KIn y := by
 induction k with
 | zero => intro y hy; cases hy
 | succ k ih =>
  intro y hy
  simp only [bitsK, List.mem_append, List.mem_singleton] at hy
  rcases hy with hy | rfl
  ·exact ih y hy
  ·exact KIn.sVar _
/-- A row that grows, read within bounds. -/
theorem GrowF.lins {e : TypeId} {o : Bool} {base l h : Nat} {R F : Nat → Prop} {w : World} {v : Value} {xs : List (List T)} (g : GrowF FShape.lin e o base R F w v xs) (bR : ∀ k, R k → l ≤ k ∧ k < h) (bF : ∀ k, F k → l ≤ k ∧ k < h) : LinS false l h w v xs := by
 obtain ⟨css, G, hr, hl, hd, hR, ho, hx⟩ := g
 rcases id hr.2 with ⟨rfl, h0⟩ | ⟨g, cap, cur, rfl, hb, hg, hc, hcm, hs, ht⟩
 ·have : xs = [] := List.eq_nil_of_length_eq_zero h0
  subst this
  exact Shape.row_nil _ _ _ _
 ·refine ⟨some ⟨g, 0, none⟩, cap, rfl, hc, by unfold maxLen at hcm; omega, .inr ⟨g, 0, rfl, (bR g (hR g rfl)).1, (bR g (hR g rfl)).2, fun h => (by cases h), fun j => css[j]?.getD [], fun _ => l, fun _ => h, fun h => (by cases h), fun j x hj => ?_⟩⟩
  have hjl : j < xs.length := (List.getElem?_eq_some_iff.1 hj).1
  have hcs : css[j]? = some css[j] := List.getElem?_eq_getElem (by omega)
  obtain ⟨q1, u, e1, q2⟩ := hx j x _ hj hcs
  have e2 : css[j]?.getD [] = css[j] := by rw [hcs]; rfl
  simp only [e2]
  refine ⟨Nat.le_refl _, Nat.le_refl _, fun f c hfc => ?_, u, e1, q2.unown.iv (fun k hk => bF k (q1 k hk))⟩
  have hf : f < FShape.lin.wd := by have := (List.getElem?_eq_some_iff.1 hfc).1; rw [e1] at this; exact this
  show w.cell? ⟨g, 0 + j * 1 + f, none⟩ = some c
  rw [show 0 + j * 1 + f = j * FShape.lin.wd + f from by show _ = j * 1 + f; omega, hr.cellAt _ (Shape.idx_lt hjl hf), Shape.flat_at hd hcs hf]
  exact hfc
/-- What the model's bits leave: the system, and a row that reads as the bits. -/
def RetMR (base g : Nat) (t : SysC) (ls : List (List T)) (Q A G : Nat → Prop) (w : World) (e : Ending) (w' : World) : Prop :=
 ∃ u Q' A', e = .returned u ∧ Mdl base g t Q' A' w' ∧ LinS false w.heap.size w'.heap.size w' u ls ∧ Ext Q Q' w w' ∧ (∀ k, A' k → A k ∨ G k ∨ w.heap.size ≤ k)
theorem RetMR.of {base g : Nat} {t t' : SysC} {ls ls' : List (List T)} {Q A G Q' A' : Nat → Prop} {w w' : World} {u : Value} (e1 : t' = t) (e2 : ls' = ls) (h1 : Mdl base g t Q' A' w') (h2 : LinS false w.heap.size w'.heap.size w' u ls) (h3 : Ext Q Q' w w') (h4 : ∀ k, A' k → A k ∨ G k ∨ w.heap.size ≤ k) : RetMR base g t' ls' Q A G w (.returned u) w' := by
 subst e1 e2; exact ⟨u, Q', A', rfl, h1, h2, h3, h4⟩

set_option maxRecDepth 100000 in
set_option maxHeartbeats 6400000 in
theorem bits_spec (base g : Nat) (t : SysC) (Q A Gx : Nat → Prop) (ox : Bool) (vx : Value) (x : List T) (n : Nat) (w : World) (M : Mdl base g t Q A w) (hb : base ≤ w.heap.size) (tx : TermsF ox Gx w vx x) (hG : ∀ k, Gx k → k < w.heap.size ∧ ¬ Q k)
  (ix : KIn x) (nx : x.length ≤ 500000) (hn : n ≤ 30) (i0 : 0 ≤ t.ins) (i1 : t.ins ≤ 100) (nh : t.hints.length ≤ 900000) (nc : t.cons.length ≤ 900000) :
  Calls Tryz.prog 40 #[.pointer (some ⟨g, 0, none⟩), .agg #[vx], .int .i64 n] w (RetMR base g (bitsS t x n) (bitsK t x n).2 Q A Gx w) := by
 obtain ⟨ax, kx, rfl, lx, mx⟩ := tx.shape
 obtain ⟨j1, hj1, hz1, hs1, hb1⟩ := info_parts linInfo
 have LQ := Lib.hid M.lim
 have EL := Lib.hid M.els
 have HG := Lib.hid hG
 have NQ : Hid (∀ i, w.heap.size ≤ i → ¬ Q i) := Lib.hid fun i hi q => by have := LQ.out i q; omega
 clear hG
 go_enter Tryz.func40, Tryz.ntmps40
 go_wp2_with fail
 refine name_wp fun w1 hw1 => ?_
 have e1 : Below w.heap.size w w1 := by rw [hw1]; (repeat (with_reducible first | exact bR _ _ | assumption | refine bD ?_ | refine bN ?_ _ | refine bA ?_ _ | refine bS ?_ _))
 have z1 : w.heap.size + 1 ≤ w1.heap.size := by rw [hw1]; simp
 have cx1 : w1.cell? ⟨w.heap.size, 0, none⟩ = some (.slice ax x.length kx) := by rw [hw1]; first | (simp; done) | go_simp
 clear hw1
 have X1 : Ext Q Q w w1 := .of_below e1
 have M1 := M.below e1
 have H1 := Lib.hid X1
 have Hx : Hid (∀ Q' w', Ext Q Q' w1 w' → TermsF ox Gx w' (.slice ax x.length kx) x) := Lib.hid fun Q' w' h => tx.agree ((X1.trans h).only.same (fun k q => HG.out k q))
 have K1 : Hid (∀ Q' w', Ext Q Q' w1 w' → w'.cell? ⟨w.heap.size, 0, none⟩ = some (.slice ax x.length kx) ∧ ∀ k, Gx k → k < w'.heap.size ∧ ¬ Q' k) := Lib.hid fun Q' w' h => ⟨(h.cell (by omega) (NQ.out _ (Nat.le_refl _)) 0).trans cx1, fun k q => ⟨by have := (HG.out k q).1; have := h.size; omega, (X1.trans h).not (HG.out k q).1 (HG.out k q).2⟩⟩
 have EM : ∀ k, A k → A k ∨ Gx k ∨ w1.heap.size ≤ k := fun k q => .inl q
 clear M tx X1 cx1 e1
 go_loopw [7, 8] (fun v i wr => ∃ (k : Nat) (Q' A' R F : Nat → Prop), k ≤ n ∧ i = .int .i64 k ∧ Ext Q Q' w1 wr ∧ Mdl base g (bitsK t x k).1 Q' A' wr ∧ GrowF FShape.lin 42 true w1.heap.size R F wr v (bitsK t x k).2 ∧ (∀ q, R q → ¬ F q) ∧ (∀ q, R q → w1.heap.size ≤ q ∧ q < wr.heap.size ∧ ¬ Q' q ∧ ¬ A' q) ∧ (∀ q, F q → w1.heap.size ≤ q ∧ q < wr.heap.size ∧ ¬ Q' q) ∧ (∀ q, A' q → A q ∨ Gx q ∨ w1.heap.size ≤ q)) (fun _ i _ => n - (intOf i).toNat)
 case atStart => exact ⟨0, Q, A, fun _ => False, fun _ => False, Nat.zero_le _, rfl, Ext.refl _ _, M1, GrowF.nil, fun _ h => h.elim, fun _ h => h.elim, fun _ h => h.elim, EM⟩
 case round =>
  obtain ⟨k, Q', A', R, F, hk, rfl, ex, Mr, gr, q1, q2, q3, q4⟩ := hrel
  clear M1 EM
  have zr := ex.size
  obtain ⟨cxr, hGr⟩ := K1.out _ _ ex
  have HGr := Lib.hid hGr
  clear hGr
  have lxr : w.heap.size < wr.heap.size := by omega
  have hbv := bitsK_vars t x k
  have hbl := bitsK_len t x k
  obtain ⟨hb1, hb2, hb3, hb4⟩ : (bitsK t x k).1.ins = t.ins ∧ (bitsK t x k).1.hints.length = t.hints.length + k ∧ (bitsK t x k).1.cons.length = t.cons.length + k ∧ (bitsK t x k).1.outs = t.outs := bitsK_sizes t x k
  have hb1' : 0 ≤ (bitsK t x k).1.ins ∧ (bitsK t x k).1.ins ≤ 100 := by rw [hb1]; exact ⟨i0, i1⟩
  obtain ⟨vr, kr, rfl, lr, mr⟩ := gr.shape
  by_cases hlt : k < n
  ·have ST : Hid ((bitsK t x (k + 1)).1 = boolS (sHint (bitsK t x k).1 ⟨1, x, [], k⟩) (sVar (bitsK t x k).1) ∧ (bitsK t x (k + 1)).2 = (bitsK t x k).2 ++ [sVar (bitsK t x k).1]) := Lib.hid ⟨rfl, rfl⟩
   obtain ⟨tk, htk⟩ : ∃ q, q = (bitsK t x k).1 := ⟨_, rfl⟩
   obtain ⟨lk, hlk⟩ : ∃ q, q = (bitsK t x k).2 := ⟨_, rfl⟩
   rw [← htk] at Mr ST hb1' hb2 hb3
   rw [← hlk] at gr ST hbl lr ⊢
   have hl30 : lk.length ≤ 30 := by omega
   have nhk : tk.hints.length ≤ 950000 := by omega
   have nck : tk.cons.length ≤ 950000 := by omega
   clear hb1 hb2 hb3 hb4 hbv htk hlk hbl
   have Q1' := Lib.hid q1
   have Q2' := Lib.hid q2
   have Q3' := Lib.hid q3
   have Q4' := Lib.hid q4
   clear q1 q2 q3 q4
   go_wp2_with fail
   refine name_call fun wh hwh => ?_
   have eh : Below wr.heap.size wr wh := by rw [hwh]; (repeat (with_reducible first | exact bR _ _ | assumption | refine bD ?_ | refine bN ?_ _ | refine bA ?_ _ | refine bS ?_ _))
   clear hwh
   have zh := eh.size
   have Xh : Ext Q' Q' wr wh := .of_below eh
   refine (hint_spec base g tk Q' A' Gx 1 k ox true _ _ x [] wh (Mr.below eh) (by omega) (Hx.out _ _ (ex.trans Xh)) (TermsF.nil _ _ _) (fun q h => ⟨by have := (HGr.out q h).1; omega, (HGr.out q h).2⟩) hb1'.1 hb1'.2 (by omega) (by unfold Fits; omega) (by unfold Fits; omega)).mono ?_
   rintro e w2 ⟨u2, Q2, A2, rfl, M2, N2, X2, E2⟩
   obtain ⟨p2, k2, rfl, l2, b2⟩ := N2.shape
   have z2 := X2.size
   have lx2 : w.heap.size < w2.heap.size := by omega
   have X02 := Xh.trans X2
   go_wp2_with fail
   refine name_call fun w3 hw3 => ?_
   have e3 : Below w2.heap.size w2 w3 := by rw [hw3]; (repeat (with_reducible first | exact bR _ _ | assumption | refine bD ?_ | refine bN ?_ _ | refine bA ?_ _ | refine bS ?_ _))
   have z3 : w2.heap.size + 1 ≤ w3.heap.size := by rw [hw3]; simp
   have cI3 : w3.cell? ⟨w2.heap.size, 0, none⟩ = some (.slice p2 (sVar tk).length k2) := by rw [hw3]; first | (simp; done) | go_simp
   clear hw3
   have L2 := Lib.hid M2.lim
   have nI : ¬ Q2 w2.heap.size := fun q => by have := L2.out _ q; omega
   have X23 : Ext Q2 Q2 w2 w3 := .of_below e3
   have T3 : TermsF true (fun q => wh.heap.size ≤ q ∧ q < w2.heap.size ∧ ¬ Q2 q) w3 (.slice p2 (sVar tk).length k2) (sVar tk) := TermsF.agree N2 (X23.only.same (fun q h => ⟨h.2.1, h.2.2⟩))
   refine (bool_spec base g (sHint tk ⟨1, x, [], k⟩) Q2 A2 (fun q => wh.heap.size ≤ q ∧ q < w2.heap.size ∧ ¬ Q2 q) true _ (sVar tk) w3 (M2.below e3) (by omega) T3 (fun q h => ⟨by have := h.2.1; omega, h.2.2⟩) (KIn.sVar _) (by simp [sVar]) hb1'.1 hb1'.2 (by show (tk.hints ++ _).length ≤ _; simp; omega) (by show tk.cons.length ≤ _; omega)).mono ?_
   rintro e w4 ⟨Q4, A4, rfl, M4, X4, E4⟩
   have z4 := X4.size
   have X24 := X23.trans X4
   have X04 := X02.trans X24
   have cI4 := (X4.cell (b := w2.heap.size) (by omega) nI 0).trans cI3
   have lI4 : w2.heap.size < w4.heap.size := by omega
   have T4 := T3.agree (X4.only.same (fun q h => ⟨by have := h.2.1; omega, h.2.2⟩))
   have gr4 := gr.agree (fun q hq => X04.only.block q (by rcases hq with h | h; exact (Q2'.out q h).2.1; exact (Q3'.out q h).2.1) (by rcases hq with h | h; exact (Q2'.out q h).2.2.1; exact (Q3'.out q h).2.2) : SameF (fun q => R q ∨ F q) wr w4)
   have EA : Hid (∀ q, A4 q → A' q ∨ Gx q ∨ wh.heap.size ≤ q) := Lib.hid fun q h => by
    rcases E4 q h with r | r | r
    ·exact E2 q r
    ·exact .inr (.inr r.1)
    ·exact .inr (.inr (by omega))
   have NR4 : Hid (∀ q, R q → w1.heap.size ≤ q ∧ q < wr.heap.size ∧ ¬ Q4 q ∧ ¬ A4 q) := Lib.hid fun q hq => by
    obtain ⟨r1, r2, r3, r4⟩ := Q2'.out q hq
    refine ⟨r1, r2, X04.not r2 r3, fun h => ?_⟩
    rcases EA.out q h with r | r | r
    ·exact r4 r
    ·have := (HG.out q r).1; omega
    ·omega
   have NF4 : Hid (∀ q, F q → w1.heap.size ≤ q ∧ q < wr.heap.size ∧ ¬ Q4 q) := Lib.hid fun q hq => ⟨(Q3'.out q hq).1, (Q3'.out q hq).2.1, X04.not (Q3'.out q hq).2.1 (Q3'.out q hq).2.2⟩
   have NB4 : Hid (∀ q, (wh.heap.size ≤ q ∧ q < w2.heap.size ∧ ¬ Q2 q) → ¬ Q4 q) := Lib.hid fun q h => X24.not h.2.1 h.2.2
   have L4 := Lib.hid M4.lim
   have S4 := Lib.hid M4.els
   have ea : Below w4.heap.size w4 (w4.alloc (.cells #[.slice p2 (sVar tk).length k2] 42)) := (Below.refl _ _).alloc (Nat.le_refl _) _
   have gra := gr4.agree (SameF.of_below ea (fun q hq => by rcases hq with h | h; have := (NR4.out q h).2.1; omega; have := (NF4.out q h).2.1; omega))
   have Ta := T4.agree (SameF.of_below ea (fun q hq => by have := hq.2.1; omega))
   have exF := ex.trans X04
   clear gr Mr ex Xh X2 X02 X23 X4 cI3 e3 N2 M2 X24 gr4 T4 X04 T3 E2 E4
   go_wp2_with (at_builtin; refine wpList_append_growF (w4.alloc (.cells #[.slice p2 (sVar tk).length k2] 42)) rfl _ _ 32 rfl 42 j1 (.agg #[.slice none 0 0]) 24 Tryz.underlying32 hj1 hz1 hs1 hb1 rfl (by decide) (.slice vr lk.length kr) lk rfl gra [.slice p2 (sVar tk).length k2] (sVar tk) (fun q => wh.heap.size ≤ q ∧ q < w2.heap.size ∧ ¬ Q2 q) ⟨_, rfl, Ta⟩ w4.heap.size (0, 0) rfl (heap_alloc_new w4 _) (fun q r => Q1'.out q r) (fun q r => by rcases r with r | r; have := (NR4.out q r).2.1; simp; omega; have := (NF4.out q r).2.1; simp; omega) (fun q r => ⟨by have := r.2.1; simp; omega, fun r1 => by have := (NR4.out q r1).2.1; have := r.1; omega⟩) (fun _ q r r1 => by have := (NF4.out q r).2.1; have := r1.1; omega) (by omega) (by omega) (by simp; omega) ?_; intro g5 cap5 w5 hh5)
   obtain ⟨⟨gr5, on5⟩, hc5⟩ := hh5
   have z5 := on5.size
   simp only [World.size_alloc] at z5
   have b5 : OnlyF R w4 w5 := (OnlyF.of_below ea).trans on5
   have ex5 : Ext Q Q4 w1 w5 := ⟨exF.only.trans2 b5 (fun q hq => .inr (NR4.out q hq).1), exF.grow⟩
   have M5 := M4.same (w' := w5) (fun q hq => b5.block q (by rcases hq with h | h; exact L4.out q h; exact (S4.out q h).1) (fun r => by rcases hq with h | h; exact (NR4.out q r).2.2.1 h; exact (NR4.out q r).2.2.2 h)) b5.size
   have c1 : ∀ q, (R q ∨ Nw (w4.alloc (.cells #[.slice p2 (sVar tk).length k2] 42)) w5 q) → ¬ (F q ∨ (wh.heap.size ≤ q ∧ q < w2.heap.size ∧ ¬ Q2 q)) := fun q r f => by
    rcases r with r | r
    ·rcases f with f | f
     ·exact Q1'.out q r f
     ·have := (NR4.out q r).2.1; have := f.1; omega
    ·have r1 := r.1
     simp only [World.size_alloc] at r1
     rcases f with f | f
     ·have := (NF4.out q f).2.1; omega
     ·have := f.2.1; omega
   have c2 : ∀ q, (R q ∨ Nw (w4.alloc (.cells #[.slice p2 (sVar tk).length k2] 42)) w5 q) → w1.heap.size ≤ q ∧ q < w5.heap.size ∧ ¬ Q4 q ∧ ¬ A4 q := fun q r => by
    rcases r with r | r
    ·obtain ⟨r1, r2, r3, r4⟩ := NR4.out q r
     exact ⟨r1, by omega, r3, r4⟩
    ·have r1 := r.1
     simp only [World.size_alloc] at r1
     exact ⟨by omega, r.2, fun hq => by have := L4.out q hq; omega, fun hq => by have := (S4.out q hq).1; omega⟩
   have c3 : ∀ q, (F q ∨ (wh.heap.size ≤ q ∧ q < w2.heap.size ∧ ¬ Q2 q)) → w1.heap.size ≤ q ∧ q < w5.heap.size ∧ ¬ Q4 q := fun q f => by
    rcases f with f | f
    ·obtain ⟨r1, r2, r3⟩ := NF4.out q f
     exact ⟨r1, by omega, r3⟩
    ·exact ⟨by have := f.1; omega, by have := f.2.1; omega, NB4.out q f⟩
   have c4 : ∀ q, A4 q → A q ∨ Gx q ∨ w1.heap.size ≤ q := fun q h => by
    rcases EA.out q h with r | r | r
    ·exact Q4'.out q r
    ·exact .inr (.inl r)
    ·exact .inr (.inr (by omega))
   have HC := Lib.hid c1
   have HC2 := Lib.hid c2
   have HC3 := Lib.hid c3
   have HC4 := Lib.hid c4
   clear on5 b5 gra Ta M4 ea exF c1 c2 c3 c4
   go_roundw
   case rel => exact ⟨k + 1, Q4, A4, _, _, by omega, by go_num, ex5, by rw [ST.out.1]; exact M5, by rw [ST.out.2]; exact gr5, HC.out, HC2.out, HC3.out, HC4.out⟩
   case measure => simp [intOf]; omega
  ·obtain rfl : k = n := by omega
   have HK1 : Hid (∀ b ∈ (bitsK t x k).2, KIn b ∧ b.length ≤ 1) := Lib.hid fun b h => ⟨bitsK_kin t x k b h, by rw [bitsK_one t x k b h]; exact Nat.le_refl _⟩
   have ES : Hid (bitsS t x k = eqS (bitsK t x k).1 (packS (bitsK t x k).2) x) := Lib.hid rfl
   have SL : Hid ((packS (bitsK t x k).2).length ≤ 30) := Lib.hid (Nat.le_trans (packS_len fun b h => (HK1.out b h).2) (by omega))
   have SK := packS_kin (bitsK t x k).2
   have Ls : LinS false 0 wr.heap.size wr (.slice vr (bitsK t x k).2.length kr) (bitsK t x k).2 := gr.read
   obtain ⟨tk, htk⟩ : ∃ q, q = (bitsK t x k).1 := ⟨_, rfl⟩
   obtain ⟨lk, hlk⟩ : ∃ q, q = (bitsK t x k).2 := ⟨_, rfl⟩
   rw [← htk] at Mr ES hb1' hb2 hb3
   rw [← hlk] at Ls gr HK1 ES SL SK hbl lr ⊢
   have hl30 : lk.length ≤ 30 := by omega
   have nhk : tk.hints.length ≤ 950000 := by omega
   have nck : tk.cons.length ≤ 950000 := by omega
   have HBL := Lib.hid hbl
   have NR := Lib.hid q2
   have NF := Lib.hid q3
   clear hb1 hb2 hb3 hb4 hbv htk hbl
   have HLK := Lib.hid hlk
   clear hlk
   have Q4' := Lib.hid q4
   clear q1 q2 q3 q4
   have L' := Lib.hid Mr.lim
   go_wp2_with fail
   have ed : Below wr.heap.size wr wr.drew := (Below.refl _ _).drew
   have zd : wr.drew.heap.size = wr.heap.size := rfl
   have c0 := cell_keep ed cxr
   have Ld := Ls.keep ed (Nat.le_refl _)
   have Xd : Ext Q' Q' wr wr.drew := .of_below ed
   have Md := Mr.below ed
   go_region_held3 (fun w' => w'.cell? ⟨w.heap.size, 0, none⟩ = some (.slice ax x.length kx)) (first | exact c0 | exact cell_keep f2 c0 | exact (K1.out _ _ (ex.trans (Xd.trans (X2.trans X4)))).1)
    (first
     | (go_at_call 61; (with_reducible refine (l4pack_wide false 0 wr.heap.size _ lk wr.drew Ld (Nat.le_refl _) hl30 HK1.out).mono ?_); rintro e w2 ⟨u2, rfl, f2, t2⟩; obtain ⟨p2, k2, rfl, l2, b2⟩ := t2.shape; have z2 := f2.size; have X2 : Ext Q' Q' wr.drew w2 := .of_below f2)
     | (go_at_call 60; (with_reducible refine (eq_spec base g tk Q' A' (fun q => Gx q ∨ (wr.heap.size ≤ q ∧ q < w2.heap.size)) true _ (packS lk) ox _ x w2 (Md.below f2) (by omega) (t2.toF (fun q q1 q2 => .inr ⟨by omega, q2⟩)) ((Hx.out _ _ (ex.trans (Xd.trans X2))).mono (fun q h => .inl h)) (fun q h => by rcases h with h | h; exact ⟨by have := (HGr.out q h).1; omega, (HGr.out q h).2⟩; exact ⟨h.2, fun hq => by have := L'.out q hq; omega⟩) SK ix (Nat.le_trans SL.out (by omega)) nx hb1'.1 hb1'.2 (by omega) (by omega)).mono ?_); rintro e w4 ⟨Q4, A4, rfl, M4, X4, E4⟩; have z4 := X4.size))
   have XF := H1.out.trans (ex.trans (Xd.trans (X2.trans X4)))
   have EA : ∀ q, A4 q → A q ∨ Gx q ∨ w.heap.size ≤ q := fun q h => by
    rcases E4 q h with r | r | r
    ·rcases Q4'.out q r with r | r | r
     ·exact .inl r
     ·exact .inr (.inl r)
     ·exact .inr (.inr (by omega))
    ·rcases r with r | r
     ·exact .inr (.inl r)
     ·exact .inr (.inr (by have := r.1; omega))
    ·exact .inr (.inr (by omega))
   have gr4 := gr.agree (fun q hq => (Xd.trans (X2.trans X4)).only.block q (by rcases hq with h | h; exact (NR.out q h).2.1; exact (NF.out q h).2.1) (by rcases hq with h | h; exact (NR.out q h).2.2.1; exact (NF.out q h).2.2) : SameF (fun q => R q ∨ F q) wr w4)
   have LF : LinS false w.heap.size w4.heap.size w4 (.slice vr lk.length kr) (bitsK t x k).2 := by rw [← HLK.out]; exact gr4.lins (fun q hq => ⟨by have := (NR.out q hq).1; omega, by have := (NR.out q hq).2.1; omega⟩) (fun q hq => ⟨by have := (NF.out q hq).1; omega, by have := (NF.out q hq).2.1; omega⟩)
   clear gr gr4 Xd X2 X4 f2 t2 Md ed c0 Ld Ls Mr E4
   go_wp2_with fail
   go_ret
   exact RetMR.of ES.out rfl M4 LF XF EA
end Go.Proofs.YtcenijdaacbgpaaGreat.L
