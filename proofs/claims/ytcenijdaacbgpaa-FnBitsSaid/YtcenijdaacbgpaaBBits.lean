/- The builder's bits. -/
import Derived.Test.YtcenijdaacbgpaaBOps
import Derived.Test.YtcenijdaacbgpaaB28
namespace Go.Proofs.Ytcenijdaacbgpaa.L
open Go.RowKit Go.Proofs.Ytcenijdaacbgpaa.S
set_option linter.unusedVariables false
set_option linter.unusedSimpArgs false

theorem GrowF.low2 {α : Type} {E : FShape α} {e : TypeId} {o : Bool} {base base' : Nat} {R F : Nat → Prop} {w : World} {v : Value} {xs : List α} (g : GrowF E e o base R F w v xs) (h : base' ≤ base) : GrowF E e o base' R F w v xs := by
  obtain ⟨css, G, ⟨a1, a2⟩, h2, h3, h4, h5, h6⟩ := g
  refine ⟨css, G, ⟨a1, ?_⟩, h2, h3, h4, h5, h6⟩
  rcases a2 with a2 | ⟨b, cap, cur, e1, e2, e3⟩
  · exact .inl a2
  · exact .inr ⟨b, cap, cur, e1, by omega, e3⟩
/-- A row of combinations of one's own, from base on, apart from Q. -/
def NewR (base : Nat) (Q : Nat → Prop) (w : World) (v : Value) (ls : List (List T)) : Prop :=
  ∃ R F : Nat → Prop, GrowF FShape.lin 39 true base R F w v ls ∧ (∀ k, R k → ¬ F k) ∧ ∀ k, R k ∨ F k → base ≤ k ∧ k < w.heap.size ∧ ¬ Q k
section
variable {base : Nat} {Q Q' : Nat → Prop} {w w' : World} {v : Value} {ls : List (List T)}
theorem NewR.nil (base : Nat) (Q : Nat → Prop) (w : World) : NewR base Q w (.slice none 0 0) [] := ⟨fun _ => False, fun _ => False, GrowF.nil, fun _ h => h.elim, fun _ h => by rcases h with h | h <;> exact h.elim⟩
theorem NewR.ext (t : NewR base Q w v ls) (e : Ext Q Q' w w') : NewR base Q' w' v ls := by
  obtain ⟨R, F, g, h1, h2⟩ := t
  exact ⟨R, F, g.agree (fun k hk => e.only.block k (h2 k hk).2.1 (h2 k hk).2.2), h1, fun k hk => ⟨(h2 k hk).1, Nat.lt_of_lt_of_le (h2 k hk).2.1 e.size, e.not (h2 k hk).2.1 (h2 k hk).2.2⟩⟩
theorem NewR.shape (t : NewR base Q w v ls) : ∃ a cap, v = .slice a ls.length cap ∧ ls.length ≤ cap ∧ cap ≤ 9223372036854775807 := by obtain ⟨R, F, g, h1, h2⟩ := t; exact g.shape
theorem NewR.lins (t : NewR base Q w v ls) : LinS false 0 w.heap.size w v ls := by obtain ⟨R, F, g, h1, h2⟩ := t; exact g.read
theorem NewR.low {b2 : Nat} (t : NewR base Q w v ls) (h : b2 ≤ base) (hg : ∀ R F, GrowF FShape.lin 39 true base R F w v ls → GrowF FShape.lin 39 true b2 R F w v ls) : NewR b2 Q w v ls := by
  obtain ⟨R, F, g, h1, h2⟩ := t
  exact ⟨R, F, hg _ _ g, h1, fun k hk => ⟨Nat.le_trans h (h2 k hk).1, (h2 k hk).2⟩⟩
end
/-- What a method of the builder with a row as its result leaves. -/
def RetR (base g : Nat) (gv : Gv) (s : SysC) (b : Bd) (ls : List (List T)) (Q : Nat → Prop) (w : World) (e : Ending) (w' : World) : Prop := ∃ u Q', e = .returned u ∧ Bld base g gv s b Q' w' ∧ NewR w.heap.size Q' w' u ls ∧ Ext Q Q' w w'
theorem RetR.of {base g : Nat} {gv : Gv} {s : SysC} {b b' : Bd} {ls ls' : List (List T)} {Q Q' : Nat → Prop} {w w' : World} {u : Value} (eb : b' = b) (et : ls' = ls) (h1 : Bld base g gv s b Q' w') (h2 : NewR w.heap.size Q' w' u ls) (h3 : Ext Q Q' w w') : RetR base g gv s b' ls' Q w (.returned u) w' := by
  subst eb et; exact ⟨u, Q', rfl, h1, h2, h3⟩

set_option maxRecDepth 100000 in
set_option maxHeartbeats 6400000 in
theorem bitsB_any (base g : Nat) (gv : Gv) (s : SysC) (b : Bd) (Q : Nat → Prop) (ox : Bool) (vx : Value) (x : List T) (n : Nat) (w : World) (B : Bld base g gv s b Q w) (tx : OutL ox Q w vx x)
    (nx : x.length ≤ 1048576) (hn : n ≤ 30) (i0 : 0 ≤ s.ins) (i1 : s.ins ≤ 100) (nh : s.hints.length ≤ 1048576) (nc : s.cons.length ≤ 1048576) (nb : b.n + 100 ≤ 1000000) :
    Calls Try.prog 24 #[.pointer (some ⟨g, 0, none⟩), .agg #[vx], .int .i64 n] w (RetR base g gv s (bitsB s b x n) (bitsBK s b x n).2 Q w) := by
  obtain ⟨ax, kx, rfl, lx, mx⟩ := tx.shape
  obtain ⟨j1, hj1, hz1, hs1, hb1⟩ := info_parts linInfo
  have LQ := Lib.hid B.lim
  have NQ : Hid (∀ i, w.heap.size ≤ i → ¬ Q i) := Lib.hid fun i hi q => by have := LQ.out i q; omega
  go_enter Try.func24, Try.ntmps24
  go_wp2_with fail
  refine name_wp fun w1 hw1 => ?_
  have e1 : Below w.heap.size w w1 := by rw [hw1]; (repeat (with_reducible first | exact bR _ _ | assumption | refine bD ?_ | refine bN ?_ _ | refine bA ?_ _ | refine bS ?_ _))
  have z1 : w.heap.size + 1 ≤ w1.heap.size := by rw [hw1]; simp
  have cx1 : w1.cell? ⟨w.heap.size, 0, none⟩ = some (.slice ax x.length kx) := by rw [hw1]; first | (simp; done) | go_simp
  clear hw1
  have X1 : Ext Q Q w w1 := .of_below e1
  have B1 := B.below e1
  have H1 := Lib.hid X1
  have Hx := Lib.hid (tx.ext X1)
  have K1 : Hid (∀ Q' w', Ext Q Q' w1 w' → w'.cell? ⟨w.heap.size, 0, none⟩ = some (.slice ax x.length kx)) := Lib.hid fun Q' w' h => (h.cell (by omega) (NQ.out _ (Nat.le_refl _)) 0).trans cx1
  clear B tx X1 cx1 e1
  go_loopw [7, 13] (fun v i wr => ∃ (k : Nat) (Q' : Nat → Prop), k ≤ n ∧ i = .int .i64 k ∧ Ext Q Q' w1 wr ∧ Bld base g gv s (bitsBK s b x k).1 Q' wr ∧ NewR w1.heap.size Q' wr v (bitsBK s b x k).2) (fun _ i _ => n - (intOf i).toNat)
  case atStart => exact ⟨0, Q, Nat.zero_le _, rfl, Ext.refl _ _, B1, NewR.nil _ _ _⟩
  case round =>
    obtain ⟨k, Q', hk, rfl, ex, Br, Nr⟩ := hrel
    clear B1
    have zr := ex.size
    have cxr := K1.out _ _ ex
    have lxr : w.heap.size < wr.heap.size := by omega
    have hbn := bitsBK_n s b x k
    have hbl := bitsBK_len s b x k
    obtain ⟨vr, kr, rfl, lr, mr⟩ := Nr.shape
    by_cases hlt : k < n
    · have ST : Hid ((bitsBK s b x (k + 1)).1 = boolB s (bHint s (bitsBK s b x k).1 ⟨1, x, [], k⟩) (bVar s (bitsBK s b x k).1) ∧ (bitsBK s b x (k + 1)).2 = (bitsBK s b x k).2 ++ [bVar s (bitsBK s b x k).1]) := Lib.hid ⟨rfl, rfl⟩
      have nV : (bVar s (bitsBK s b x k).1).length ≤ 1048576 := by have := varOf_len (varsN s + (bitsBK s b x k).1.hs.length); unfold bVar; omega
      obtain ⟨bk, hbk⟩ : ∃ q, q = (bitsBK s b x k).1 := ⟨_, rfl⟩
      obtain ⟨lk, hlk⟩ : ∃ q, q = (bitsBK s b x k).2 := ⟨_, rfl⟩
      rw [← hbk] at Br ST nV hbn
      rw [← hlk] at Nr ST hbl lr ⊢
      have hl30 : lk.length ≤ 30 := by omega
      have HBL := Lib.hid hbl
      clear hbk hlk hbl
      obtain ⟨R, F, gr, q1, q2⟩ := Nr
      have Q2' := Lib.hid q2
      have Q1' := Lib.hid q1
      clear q1 q2
      go_wp2_with fail
      refine name_call fun wh hwh => ?_
      have eh : Below wr.heap.size wr wh := by rw [hwh]; (repeat (with_reducible first | exact bR _ _ | assumption | refine bD ?_ | refine bN ?_ _ | refine bA ?_ _ | refine bS ?_ _))
      clear hwh
      have zh := eh.size
      have Xh : Ext Q' Q' wr wh := .of_below eh
      refine (hintB_any base g gv s bk Q' 1 k ox true _ _ x [] wh (Br.below eh) ((Hx.out.ext ex).ext Xh) (OutL.nil _ _ _) nx (Nat.zero_le _) i0 i1 nh (by omega) (by unfold Fits; omega) (by unfold Fits; omega)).mono ?_
      rintro e w2 ⟨u2, Q2, rfl, B2, N2, X2⟩
      obtain ⟨p2, k2, rfl, l2, b2⟩ := N2.shape
      have z2 := X2.size
      have lx2 : w.heap.size < w2.heap.size := by omega
      have X02 := Xh.trans X2
      go_wp2_with fail
      refine name_call fun w3 hw3 => ?_
      have e3 : Below w2.heap.size w2 w3 := by rw [hw3]; (repeat (with_reducible first | exact bR _ _ | assumption | refine bD ?_ | refine bN ?_ _ | refine bA ?_ _ | refine bS ?_ _))
      have z3 : w2.heap.size + 1 ≤ w3.heap.size := by rw [hw3]; simp
      have cI3 : w3.cell? ⟨w2.heap.size, 0, none⟩ = some (.slice p2 (bVar s bk).length k2) := by rw [hw3]; first | (simp; done) | go_simp
      clear hw3
      have L2 := Lib.hid B2.lim
      have nI : ¬ Q2 w2.heap.size := fun q => by have := L2.out _ q; omega
      have X23 : Ext Q2 Q2 w2 w3 := .of_below e3
      refine (booleanB_any base g gv s (bHint s bk ⟨1, x, [], k⟩) Q2 true _ (bVar s bk) w3 (B2.below e3) (N2.out.ext X23) nV nc (by show bk.n + 1 ≤ 1000000; omega)).mono ?_
      rintro e w4 ⟨Q4, rfl, B4, X4⟩
      have z4 := X4.size
      have X24 := X23.trans X4
      have X04 := X02.trans X24
      have cI4 := (X4.cell (b := w2.heap.size) (by omega) nI 0).trans cI3
      have lI4 : w2.heap.size < w4.heap.size := by omega
      have T4 : TermsF true (fun q => wh.heap.size ≤ q ∧ q < w2.heap.size ∧ ¬ Q2 q) w4 (.slice p2 (bVar s bk).length k2) (bVar s bk) := TermsF.agree N2 (X24.only.same (fun q h => ⟨h.2.1, h.2.2⟩))
      have gr4 := gr.agree (fun q hq => X04.only.block q (Q2'.out q hq).2.1 (Q2'.out q hq).2.2 : SameF (fun q => R q ∨ F q) wr w4)
      have NO4 : Hid (∀ q, R q ∨ F q → w1.heap.size ≤ q ∧ q < wr.heap.size ∧ ¬ Q4 q) := Lib.hid fun q hq => ⟨(Q2'.out q hq).1, (Q2'.out q hq).2.1, X04.not (Q2'.out q hq).2.1 (Q2'.out q hq).2.2⟩
      have NB4 : Hid (∀ q, (wh.heap.size ≤ q ∧ q < w2.heap.size ∧ ¬ Q2 q) → ¬ Q4 q) := Lib.hid fun q h => X24.not h.2.1 h.2.2
      have L4 := Lib.hid B4.lim
      have ea : Below w4.heap.size w4 (w4.alloc (.cells #[.slice p2 (bVar s bk).length k2] 39)) := (Below.refl _ _).alloc (Nat.le_refl _) _
      have gra := gr4.agree (SameF.of_below ea (fun q hq => by have := NO4.out q hq; omega))
      have Ta := T4.agree (SameF.of_below ea (fun q hq => by have := hq.2.1; omega))
      have exF := ex.trans X04
      clear gr Br ex Xh X2 X02 X23 X4 cI3 e3 N2 B2 X24 gr4 T4 X04
      go_wp2_with (at_builtin; refine wpList_append_growF (w4.alloc (.cells #[.slice p2 (bVar s bk).length k2] 39)) rfl _ _ 28 rfl 39 j1 (.agg #[.slice none 0 0]) 24 Try.underlying28 hj1 hz1 hs1 hb1 rfl (by decide) (.slice vr lk.length kr) lk rfl gra [.slice p2 (bVar s bk).length k2] (bVar s bk) (fun q => wh.heap.size ≤ q ∧ q < w2.heap.size ∧ ¬ Q2 q) ⟨_, rfl, Ta⟩ w4.heap.size (0, 0) rfl (heap_alloc_new w4 _) (fun q r => Q1'.out q r) (fun q r => by have := NO4.out q r; simp; omega) (fun q r => ⟨by have := r.2.1; simp; omega, fun r1 => by have := NO4.out q (.inl r1); have := r.1; omega⟩) (fun _ q r r1 => by have := NO4.out q (.inr r); have := r1.1; omega) (by omega) (by omega) (by simp; omega) ?_; intro g5 cap5 w5 hh5)
      obtain ⟨⟨gr5, on5⟩, hc5⟩ := hh5
      have z5 := on5.size
      simp only [World.size_alloc] at z5
      have b5 : OnlyF R w4 w5 := (OnlyF.of_below ea).trans on5
      have ex5 : Ext Q Q4 w1 w5 := ⟨exF.only.trans2 b5 (fun q hq => .inr (NO4.out q (.inl hq)).1), exF.grow⟩
      have B5 := B4.same (w' := w5) (fun q hq => b5.block q (L4.out q hq) (fun r => (NO4.out q (.inl r)).2.2 hq)) b5.size
      have N5 : NewR w1.heap.size Q4 w5 (.slice (some ⟨g5, 0, none⟩) (lk.length + 1) cap5) (lk ++ [bVar s bk]) := by
        refine ⟨_, _, gr5, fun q r f => ?_, fun q h => ?_⟩
        · rcases r with r | r
          · rcases f with f | f
            · exact Q1'.out q r f
            · have := NO4.out q (.inl r); have := f.1; omega
          · have r1 := r.1
            simp only [World.size_alloc] at r1
            rcases f with f | f
            · have := NO4.out q (.inr f); omega
            · have := f.2.1; omega
        · rcases h with (h | h) | (h | h)
          · have := NO4.out q (.inl h); exact ⟨this.1, by omega, this.2.2⟩
          · have r1 := h.1
            simp only [World.size_alloc] at r1
            exact ⟨by omega, h.2, fun hq => by have := L4.out q hq; omega⟩
          · have := NO4.out q (.inr h); exact ⟨this.1, by omega, this.2.2⟩
          · exact ⟨by have := h.1; omega, by have := h.2.1; omega, NB4.out q h⟩
      clear gr5 on5 b5 gra Ta B4 ea exF
      go_roundw
      case rel => exact ⟨k + 1, Q4, by omega, by go_num, ex5, by rw [ST.out.1]; exact B5, by rw [ST.out.2]; exact N5⟩
      case measure => simp [intOf]; omega
    · obtain rfl : k = n := by omega
      obtain ⟨bk, hbk⟩ : ∃ q, Hid (q = (bitsBK s b x k).1) := ⟨_, Lib.hid rfl⟩
      obtain ⟨lk, hlk⟩ : ∃ q, Hid (q = (bitsBK s b x k).2) := ⟨_, Lib.hid rfl⟩
      rw [← hbk.out] at Br hbn
      rw [← hlk.out] at Nr hbl lr ⊢
      have hl30 : lk.length ≤ 30 := by omega
      have EB : Hid (bitsB s b x k = eqB s bk (packR lk).1 x) := Lib.hid (by unfold bitsB packR; rw [hbk.out, hlk.out])
      have HBL := Lib.hid hbl
      clear hbl
      go_wp2_with fail
      refine name_call fun wh hwh => ?_
      have eh : Below wr.heap.size wr wh := by rw [hwh]; (repeat (with_reducible first | exact bR _ _ | assumption | refine bD ?_ | refine bN ?_ _ | refine bA ?_ _ | refine bS ?_ _))
      clear hwh
      have zh := eh.size
      have Xh : Ext Q' Q' wr wh := .of_below eh
      have Nh := Nr.ext Xh
      refine (pack_impl false 0 wh.heap.size _ lk wh Nh.lins (Nat.le_refl _) (by omega)).mono ?_
      rintro e w2 ⟨u2, rfl, f2, t2⟩
      obtain ⟨p2, k2, rfl, l2, m2⟩ := t2.shape
      have z2 := f2.size
      have X2 : Ext Q' Q' wh w2 := .of_below f2
      have X02 := Xh.trans X2
      have cx2 := K1.out _ _ (ex.trans X02)
      have lx2 : w.heap.size < w2.heap.size := by omega
      go_wp2_with fail
      refine name_call fun w3 hw3 => ?_
      have e3 : Below w2.heap.size w2 w3 := by rw [hw3]; (repeat (with_reducible first | exact bR _ _ | assumption | refine bD ?_ | refine bN ?_ _ | refine bA ?_ _ | refine bS ?_ _))
      clear hw3
      have z3 := e3.size
      have X23 : Ext Q' Q' w2 w3 := .of_below e3
      have B3 := (Br.below (eh.trans (f2.mono (by omega)))).below e3
      refine (equalB_any base g gv s bk Q' true ox _ _ (packR lk).1 x w3 B3 ((NewL.made (base := wh.heap.size) t2 (Nat.le_refl _) (fun q hq => by have := Br.lim q hq; omega)).out.ext X23) ((Hx.out.ext ex).ext (X02.trans X23)) nc (by omega)).mono ?_
      rintro e w4 ⟨Q4, rfl, B4, X4⟩
      have N4 := Nh.ext (X2.trans (X23.trans X4))
      have XF := H1.out.trans (ex.trans (X02.trans (X23.trans X4)))
      have NF : NewR w.heap.size Q4 w4 (.slice vr lk.length kr) (bitsBK s b x k).2 := by rw [← hlk.out]; exact N4.low (b2 := w.heap.size) (by omega) (fun R F gq => gq.low2 (by omega))
      clear N4 Br Nr Nh ex Xh X2 X02 X23 X4 B3 t2 f2 e3 eh cx2 cxr K1 Hx
      go_wp2_with fail
      go_ret
      exact RetR.of EB.out rfl B4 NF XF
end Go.Proofs.Ytcenijdaacbgpaa.L
