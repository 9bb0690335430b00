/- The model's AddBits. -/
import Derived.Test.YtcenijdaacbgpaaGreatMBits
import Derived.Test.YtcenijdaacbgpaaGreatMZero
import Derived.Test.YtcenijdaacbgpaaGreatMAddS
import Derived.Test.YtcenijdaacbgpaaGreatExtR
import Derived.Test.YtcenijdaacbgpaaGreatB15
import Derived.Test.YtcenijdaacbgpaaGreatB3
import Derived.Test.YtcenijdaacbgpaaGreatRgn
import Derived.Deep.DeepCutAuto
namespace Go.Proofs.YtcenijdaacbgpaaGreat.L
open Go.RowKit Go.Proofs.YtcenijdaacbgpaaGreat.S
set_option linter.unusedVariables false
set_option linter.unusedSimpArgs false

theorem bitsK_small (s : SysC) (x : List T) (hx : x.length ≤ 1048576) (sm : Small s) : ∀ n, (∀ h ∈ (bitsK s x n).1.hints, h.a.length ≤ 1048576 ∧ h.b.length ≤ 1048576) ∧ (∀ c ∈ (bitsK s x n).1.cons, c.a.length ≤ 1048576 ∧ c.b.length ≤ 1048576 ∧ c.c.length ≤ 1048576) := by
 intro n
 induction n with
 | zero => exact ⟨sm.2.2.2.2.1, sm.2.2.2.2.2⟩
 | succ n ih =>
  refine ⟨fun h hh => ?_, fun c hc => ?_⟩
  ·rcases List.mem_append.1 (show h ∈ (bitsK s x n).1.hints ++ [⟨1, x, [], n⟩] from hh) with h1 | h1
   ·exact ih.1 h h1
   ·rw [List.mem_singleton] at h1; subst h1; exact ⟨hx, Nat.zero_le _⟩
  ·rcases List.mem_append.1 (show c ∈ (bitsK s x n).1.cons ++ [⟨sVar (bitsK s x n).1, mrg 2147483646 (sVar (bitsK s x n).1) (constOf 1), []⟩] from hc) with h1 | h1
   ·exact ih.2 c h1
   ·rw [List.mem_singleton] at h1; subst h1
    exact ⟨by simp [sVar], Nat.le_trans (mrg_length _ _ _) (by have := constOf_len 1; simp [sVar]; omega), Nat.zero_le _⟩
theorem small_bits {s : SysC} {x : List T} (sm : Small s) (hk : sysOk s = true) (nx : x.length ≤ 500000) (n : Nat) (hn : n ≤ 30) : Small (bitsS s x n) := by
 have lim := limB_facts (sysOk_limB hk)
 obtain ⟨z1, z2, z3, z4⟩ := bitsK_sizes s x n
 obtain ⟨k1, k2⟩ := bitsK_small s x (by omega) sm n
 have hp : (packS (bitsK s x n).2).length ≤ 30 := Nat.le_trans (packS_len fun b h => by rw [bitsK_one s x n b h]; exact Nat.le_refl _) (by rw [bitsK_len]; exact hn)
 refine ⟨?_, ?_, ?_, ?_, k1, fun c hc => ?_⟩
 ·show (bitsK s x n).1.outs.length ≤ _
  rw [z4]; exact sm.1
 ·show (bitsK s x n).1.hints.length ≤ _
  omega
 ·show ((bitsK s x n).1.cons ++ [_]).length ≤ _
  simp; omega
 ·show ∀ t ∈ (bitsK s x n).1.outs, _
  rw [z4]; exact sm.2.2.2.1
 ·rcases List.mem_append.1 (show c ∈ (bitsK s x n).1.cons ++ [⟨mrg 2147483646 (packS (bitsK s x n).2) x, constOf 1, []⟩] from hc) with h1 | h1
  ·exact k2 c h1
  ·rw [List.mem_singleton] at h1; subst h1
   exact ⟨show (mrg 2147483646 (packS (bitsK s x n).2) x).length ≤ 1048576 from Nat.le_trans (mrg_length _ _ _) (by omega), show (constOf 1).length ≤ 1048576 from Nat.le_trans (constOf_len _) (by omega), Nat.zero_le _⟩

set_option maxRecDepth 100000 in
set_option maxHeartbeats 3200000 in
theorem ownAll_any (o l h v) (ls : List (List T)) (w : World) (t : LinS o l h w v ls) (hw : h ≤ w.heap.size) (hn : ls.length ≤ 1000) (hel : ∀ x ∈ ls, x.length ≤ 1048576) :
  Calls Tryz.prog 42 #[v] w fun e w' => ∃ u, e = .returned u ∧ Below w.heap.size w w' ∧ NewR w.heap.size (fun _ => False) w' u ls := by
 obtain ⟨a, ka, rfl, la, ba⟩ := t.shape
 obtain ⟨j1, hj1, hz1, hs1, hb1⟩ := info_parts linInfo
 have HE := Lib.hid hel
 clear hel
 go_enter Tryz.func42, Tryz.ntmps42
 go_wp2_with fail
 go_loopw [3, 4] (fun v i wr => ∃ (k : Nat) (R F : Nat → Prop), k ≤ ls.length ∧ i = .int .i64 k ∧ Below w.heap.size w wr ∧ GrowF FShape.lin 42 true w.heap.size R F wr v (ls.take k) ∧ (∀ q, R q → ¬ F q) ∧ (∀ q, R q ∨ F q → w.heap.size ≤ q ∧ q < wr.heap.size)) (fun _ i _ => ls.length - (intOf i).toNat)
 case atStart => exact ⟨0, fun _ => False, fun _ => False, Nat.zero_le _, rfl, Below.refl _ _, GrowF.nil, fun _ h => h.elim, fun _ h => by rcases h with h | h <;> exact h.elim⟩
 case round =>
  obtain ⟨k, R, F, hk, rfl, be, gr, q1, q2⟩ := hrel
  have zr := be.size
  obtain ⟨vr, kr, rfl, lr, mr⟩ := gr.shape
  by_cases hlt : k < ls.length
  ·have ST : Hid (ls.take (k + 1) = ls.take k ++ [ls[k]]) := Lib.hid (List.take_succ_eq_append_getElem hlt)
   have hlk : (ls.take k).length ≤ 1000 := by simp; omega
   obtain ⟨b, off, u, rfl, l1, m1, c1, tu⟩ := (t.keep be hw).at hlt
   obtain ⟨x, kx, rfl, lx, bx⟩ := tu.shape
   have nx := HE.out _ (List.getElem_mem hlt)
   obtain ⟨y, hy⟩ : ∃ y, y = ls[k] := ⟨_, rfl⟩
   obtain ⟨lk, hlk'⟩ : ∃ q, q = ls.take k := ⟨_, rfl⟩
   rw [← hy] at c1 tu lx nx ST
   rw [← hlk'] at gr ST hlk lr ⊢
   have Q1' := Lib.hid q1
   have Q2' := Lib.hid q2
   have HY := Lib.hid hy
   clear q1 q2 hy hlk'
   have lb : b < wr.heap.size := World.block_lt_of_cell? _ _ c1
   go_wp2_with fail
   refine (l2own_any o l h _ y wr tu (by omega) (by omega)).mono ?_; rintro e w2 ⟨u2, rfl, f2, t2⟩
   obtain ⟨p2, k2, rfl, l2, b2⟩ := t2.shape
   have z2 := f2.size
   have ea : Below w2.heap.size w2 (w2.alloc (.cells #[.slice p2 y.length k2] 42)) := (Below.refl _ _).alloc (Nat.le_refl _) _
   have ga : Below wr.heap.size wr (w2.alloc (.cells #[.slice p2 y.length k2] 42)) := f2.trans (ea.mono z2)
   have gra := gr.agree (SameF.of_below ga (fun q hq => (Q2'.out q hq).2))
   have Ta : TermsF true (fun q => wr.heap.size ≤ q ∧ q < w2.heap.size) (w2.alloc (.cells #[.slice p2 y.length k2] 42)) (.slice p2 y.length k2) y := (t2.keep ea (Nat.le_refl _)).toF (fun q h1 h2 => ⟨h1, h2⟩)
   have b2' := be.trans (ga.mono zr)
   clear gr t2 f2 ga be c1 tu
   go_wp2_with (at_builtin; refine wpList_append_growF (w2.alloc (.cells #[.slice p2 y.length k2] 42)) rfl _ _ 32 rfl 42 j1 (.agg #[.slice none 0 0]) 24 Tryz.underlying32 hj1 hz1 hs1 hb1 rfl (by decide) (.slice vr lk.length kr) lk rfl gra [.slice p2 y.length k2] y (fun q => wr.heap.size ≤ q ∧ q < w2.heap.size) ⟨_, rfl, Ta⟩ w2.heap.size (0, 0) rfl (heap_alloc_new w2 _) (fun q r => Q1'.out q r) (fun q r => by have := Q2'.out q r; simp; omega) (fun q r => ⟨by have := r.2; simp; omega, fun r1 => by have := Q2'.out q (.inl r1); have := r.1; omega⟩) (fun _ q r r1 => by have := Q2'.out q (.inr r); have := r1.1; omega) (by omega) (by omega) (by simp; omega) ?_; intro g5 cap5 w5 hh5)
   obtain ⟨⟨gr5, on5⟩, hc5⟩ := hh5
   have z5 := on5.size
   simp only [World.size_alloc] at z5
   have b5 : Below w.heap.size w w5 := b2'.trans (on5.below (fun q hq => (Q2'.out q (.inl hq)).1) (by simp; omega))
   have c1 : Hid (∀ q, (R q ∨ Nw (w2.alloc (.cells #[.slice p2 y.length k2] 42)) w5 q) → ¬ (F q ∨ (wr.heap.size ≤ q ∧ q < w2.heap.size))) := Lib.hid fun q r f => by
    rcases r with r | r
    ·rcases f with f | f
     ·exact Q1'.out q r f
     ·have := Q2'.out q (.inl r); have := f.1; omega
    ·have r1 := r.1
     simp only [World.size_alloc] at r1
     rcases f with f | f
     ·have := Q2'.out q (.inr f); omega
     ·have := f.2; omega
   have c2 : Hid (∀ q, (R q ∨ Nw (w2.alloc (.cells #[.slice p2 y.length k2] 42)) w5 q) ∨ (F q ∨ (wr.heap.size ≤ q ∧ q < w2.heap.size)) → w.heap.size ≤ q ∧ q < w5.heap.size) := Lib.hid fun q r => by
    rcases r with (r | r) | (r | r)
    ·have := Q2'.out q (.inl r); exact ⟨this.1, by omega⟩
    ·have r1 := r.1
     simp only [World.size_alloc] at r1
     exact ⟨by omega, r.2⟩
    ·have := Q2'.out q (.inr r); exact ⟨this.1, by omega⟩
    ·exact ⟨by have := r.1; omega, by have := r.2; omega⟩
   clear on5 gra Ta ea b2'
   go_roundw
   case rel => exact ⟨k + 1, _, _, by omega, by go_num, b5, by rw [ST.out]; exact gr5, c1.out, c2.out⟩
   case measure => simp [intOf]; omega
  ·obtain rfl : k = ls.length := by omega
   rw [List.take_length] at gr lr ⊢
   have NF : NewR w.heap.size (fun _ => False) wr (.slice vr ls.length kr) ls := ⟨R, F, gr, q1, fun q hq => ⟨(q2 q hq).1, (q2 q hq).2, fun h => h⟩⟩
   clear gr q1 q2
   go_wp2_with fail
   go_ret
   exact ⟨_, rfl, be, NF⟩

/-- What the answer's last region leaves. -/
def CutO (B : Nat) (X : World) (v : List (List T)) (u0 u1 u2 u3 s7 s8 : Value) (w : World) : Prop :=
 s8 = .bool true ∧ OnlyF (fun k => k = B) X w ∧ Box4 w B u0 u1 u2 u3 ∧ ∃ a k, s7 = .slice a v.length k ∧ NewR X.heap.size (fun _ => False) w (.slice a v.length k) v
set_option maxRecDepth 100000 in
set_option maxHeartbeats 6400000 in
theorem addBits_spec (o l h vi vo vh vc) (s : SysC) (ox lx hx vx) (x : List T) (q : Int) (w : World) (ts : SysR o l h w vi vo vh vc s) (hh : h ≤ w.heap.size) (sm : Small s) (tx : Terms ox lx hx w vx x) (hhx : hx ≤ w.heap.size) (nx : x.length ≤ 1048576)
  (b : Bool) (Hb : Hid (b = mayL s [x])) (n : Nat) (hn : 1 ≤ q ∧ q ≤ 30 → q = (n : Int) ∧ n ≤ 30) (m : Bool) (hm : m = (decide (1 ≤ q ∧ q ≤ 30) && mayL s [x]))
  (ok : Bool) (r : SysC) (v : List (List T)) (Ho : Hid (ok = (m && sysOk (bitsS s x n)))) (Hr : Hid (r = if m = true then (if sysOk (bitsS s x n) = true then bitsS s x n else s) else sys0)) (Hv : Hid (v = if (m && sysOk (bitsS s x n)) = true then (bitsK s x n).2 else [])) :
  Calls Tryz.prog 19 #[.agg #[vi, vo, vh, vc], .agg #[vx], .int .i64 q] w (ExtR ok r v w) := by
 obtain ⟨ao, ko, ah, kh, ac, kc, rfl, rfl, rfl, rfl, lo, bo, lh, bh, lc, bc, fi⟩ := id ts.shape
 obtain ⟨ax, kx, rfl, qx, mbx⟩ := tx.shape
 go_enter Tryz.func19, Tryz.ntmps19
 go_wp2_with fail
 refine name_call fun w1 hw1 => ?_
 have e1 : Below w.heap.size w w1 := by rw [hw1]; (repeat (with_reducible first | exact bR _ _ | assumption | refine bD ?_ | refine bN ?_ _ | refine bA ?_ _ | refine bS ?_ _))
 have z1 : w.heap.size + 4 ≤ w1.heap.size := by rw [hw1]; simp
 have BS : Box4 w1 w.heap.size (.int .i64 s.ins) (.slice ao s.outs.length ko) (.slice ah s.hints.length kh) (.slice ac s.cons.length kc) := ⟨by rw [hw1]; first | (simp; done) | go_simp, by rw [hw1]; first | (simp; done) | go_simp, by rw [hw1]; first | (simp; done) | go_simp, by rw [hw1]; first | (simp; done) | go_simp⟩
 have cx : w1.cell? ⟨w.heap.size + 1, 0, none⟩ = some (.slice ax x.length kx) := by rw [hw1]; first | (simp; done) | go_simp
 have BR : Box4 w1 (w.heap.size + 1 + 1) (.int .i64 0) (.slice none 0 0) (.slice none 0 0) (.slice none 0 0) := ⟨by rw [hw1]; first | (simp; done) | go_simp, by rw [hw1]; first | (simp; done) | go_simp, by rw [hw1]; first | (simp; done) | go_simp, by rw [hw1]; first | (simp; done) | go_simp⟩
 have FR : Free4 w1 (w.heap.size + 1 + 1) := ⟨by rw [hw1]; first | (simp; done) | go_simp, by rw [hw1]; first | (simp; done) | go_simp, by rw [hw1]; first | (simp; done) | go_simp, by rw [hw1]; first | (simp; done) | go_simp⟩
 have ex : w1.cell? ⟨w.heap.size + 1 + 1 + 1, 0, none⟩ = some (.slice ax x.length kx) := by rw [hw1]; first | (simp; done) | go_simp
 clear hw1
 have ux := tx.keep e1 hhx
 have us := ts.keep e1 hh
 have AR : ArgsL w1 (w.heap.size + 1 + 1 + 1) [x] := ⟨by omega, fun j hj => by
  match j, hj with
  | 0, _ => exact ⟨_, ex, (OutL.arg (Q := fun _ => False) ux (Nat.le_trans hhx e1.size) (Nat.le_refl _) (fun _ q => q.elim)).read⟩⟩
 have gx : TermsF ox (fun k => k < w.heap.size) w1 (.slice ax x.length kx) x := ux.toF (fun k h1 h2 => by omega)
 refine (may_spec o l h _ _ _ _ s _ 1 [x] w1 us (Nat.le_trans hh e1.size) sm AR (by simp) b Hb).mono ?_; rintro e w2 ⟨rfl, f2⟩
 have z2 := f2.size
 cases b
 ·have E0 : m = false := by rw [hm, ← Hb.out]; simp
  rw [E0] at Ho Hr Hv
  have E1 : Hid (ok = false) := Lib.hid Ho.out
  have E2 : Hid (r = sys0) := Lib.hid Hr.out
  have E3 : Hid (v = []) := Lib.hid Hv.out
  have BR2 := BR.keep f2 (by omega)
  obtain ⟨y0, y1, y2, y3⟩ := FR.keep f2 (by omega)
  obtain ⟨r0, r1, r2, r3⟩ := id BR2
  have lA : w.heap.size + 1 + 1 < w2.heap.size := by omega
  have e2 : Below w.heap.size w w2 := e1.trans (f2.mono (by omega))
  obtain ⟨q0, q1, q2, q3⟩ := BR2.copied (.int .i64 0) (.slice none 0 0) (.slice none 0 0) (.slice none 0 0)
  clear BS BR FR AR us ts ux ex cx tx gx Ho Hr Hv hm E0 hn
  go_wp2_with fail
  rw [E1.out, E2.out, E3.out]
  exact bodyPost_ret (v := .tuple #[.agg #[.int .i64 0, .slice none 0 0, .slice none 0 0, .slice none 0 0], .slice none 0 0, .bool false]) (by simp [results, Tryz.results19, go_sem, q0, q1, q2, q3]) rfl (ExtR.of rfl rfl rfl (by (repeat (with_reducible first | exact bR _ _ | assumption | refine bD ?_ | refine bN ?_ _ | refine bA ?_ _ | refine bS ?_ _))) (SysF.zero _) (RowF.nil FShape.lin (fun _ => False) _) (fun _ q => q.elim) (fun _ q => q.elim))
 by_cases h1 : q < 1
 ·have E0 : m = false := by rw [hm, decide_eq_false (by omega)]; rfl
  rw [E0] at Ho Hr Hv
  have E1 : Hid (ok = false) := Lib.hid Ho.out
  have E2 : Hid (r = sys0) := Lib.hid Hr.out
  have E3 : Hid (v = []) := Lib.hid Hv.out
  have BR2 := BR.keep f2 (by omega)
  obtain ⟨y0, y1, y2, y3⟩ := FR.keep f2 (by omega)
  obtain ⟨r0, r1, r2, r3⟩ := id BR2
  have lA : w.heap.size + 1 + 1 < w2.heap.size := by omega
  have e2 : Below w.heap.size w w2 := e1.trans (f2.mono (by omega))
  obtain ⟨q0, q1, q2, q3⟩ := BR2.copied (.int .i64 0) (.slice none 0 0) (.slice none 0 0) (.slice none 0 0)
  clear BS BR FR AR us ts ux ex cx tx gx Ho Hr Hv hm E0 hn
  go_wp2_with fail
  rw [E1.out, E2.out, E3.out]
  exact bodyPost_ret (v := .tuple #[.agg #[.int .i64 0, .slice none 0 0, .slice none 0 0, .slice none 0 0], .slice none 0 0, .bool false]) (by simp [results, Tryz.results19, go_sem, q0, q1, q2, q3]) rfl (ExtR.of rfl rfl rfl (by (repeat (with_reducible first | exact bR _ _ | assumption | refine bD ?_ | refine bN ?_ _ | refine bA ?_ _ | refine bS ?_ _))) (SysF.zero _) (RowF.nil FShape.lin (fun _ => False) _) (fun _ q => q.elim) (fun _ q => q.elim))
 by_cases h2 : q > 30
 ·have E0 : m = false := by rw [hm, decide_eq_false (by omega)]; rfl
  rw [E0] at Ho Hr Hv
  have E1 : Hid (ok = false) := Lib.hid Ho.out
  have E2 : Hid (r = sys0) := Lib.hid Hr.out
  have E3 : Hid (v = []) := Lib.hid Hv.out
  have BR2 := BR.keep f2 (by omega)
  obtain ⟨y0, y1, y2, y3⟩ := FR.keep f2 (by omega)
  obtain ⟨r0, r1, r2, r3⟩ := id BR2
  have lA : w.heap.size + 1 + 1 < w2.heap.size := by omega
  have e2 : Below w.heap.size w w2 := e1.trans (f2.mono (by omega))
  obtain ⟨q0, q1, q2, q3⟩ := BR2.copied (.int .i64 0) (.slice none 0 0) (.slice none 0 0) (.slice none 0 0)
  clear BS BR FR AR us ts ux ex cx tx gx Ho Hr Hv hm E0 hn
  go_wp2_with fail
  rw [E1.out, E2.out, E3.out]
  exact bodyPost_ret (v := .tuple #[.agg #[.int .i64 0, .slice none 0 0, .slice none 0 0, .slice none 0 0], .slice none 0 0, .bool false]) (by simp [results, Tryz.results19, go_sem, q0, q1, q2, q3]) rfl (ExtR.of rfl rfl rfl (by (repeat (with_reducible first | exact bR _ _ | assumption | refine bD ?_ | refine bN ?_ _ | refine bA ?_ _ | refine bS ?_ _))) (SysF.zero _) (RowF.nil FShape.lin (fun _ => False) _) (fun _ q => q.elim) (fun _ q => q.elim))
 obtain ⟨rfl, hn30⟩ := hn ⟨by omega, by omega⟩
 have E0 : m = true := by rw [hm, decide_eq_true (by omega), ← Hb.out]; rfl
 rw [E0] at Ho Hr Hv
 clear hm E0 hn
 have hok := mayL_ok' Hb.out.symm
 have lim := limB_facts (sysOk_limB hok)
 have BS2 := BS.keep f2 (by omega)
 obtain ⟨s0, s1, s2, s3⟩ := id BS2
 clear AR ex
 have okx := linW_ok ((mayL_in Hb.out.symm).2 x (by simp))
 have ix := KIn.of_ok okx
 have jx := linOk_length okx
 go_wp2_with fail
 refine (l3own_any o l h _ _ _ _ s w2 (us.keep f2 (by omega)) (by omega) sm).mono ?_; rintro e w3 ⟨ui, uo, uh, uc, rfl, f3, own⟩
 obtain ⟨xo, jo, xh, jh, xc, jc, rfl, rfl, rfl, rfl, -⟩ := (own.sysF (Nat.le_refl _)).shape
 have z3 := f3.size
 have zo : w2.heap.size + 3 ≤ w3.heap.size := by obtain ⟨-, -, m1, m2, p1, p2, p3, -⟩ := own; omega
 have f13 : Below w1.heap.size w1 w3 := f2.trans (f3.mono (by omega))
 have cx3 := cell_keep f13 cx
 have lx3 : w.heap.size + 1 < w3.heap.size := by omega
 clear s0 s1 s2 s3
 go_wp2_with fail
 refine name_call fun w4 hw4 => ?_
 have e4 : Below w3.heap.size w3 w4 := by rw [hw4]; (repeat (with_reducible first | exact bR _ _ | assumption | refine bD ?_ | refine bN ?_ _ | refine bA ?_ _ | refine bS ?_ _))
 have z4 : w3.heap.size + 1 ≤ w4.heap.size := by rw [hw4]; simp
 have BX : Box4 w4 w3.heap.size (.int .i64 s.ins) (.slice xo s.outs.length jo) (.slice xh s.hints.length jh) (.slice xc s.cons.length jc) := ⟨by rw [hw4]; first | (simp; done) | go_simp, by rw [hw4]; first | (simp; done) | go_simp, by rw [hw4]; first | (simp; done) | go_simp, by rw [hw4]; first | (simp; done) | go_simp⟩
 have FX : Free4 w4 w3.heap.size := ⟨by rw [hw4]; first | (simp; done) | go_simp, by rw [hw4]; first | (simp; done) | go_simp, by rw [hw4]; first | (simp; done) | go_simp, by rw [hw4]; first | (simp; done) | go_simp⟩
 clear hw4
 have f14 : Below w1.heap.size w1 w4 := f13.trans (e4.mono (by omega))
 obtain ⟨Q, M4, hQ⟩ := Mdl.start (own.agree4 e4) (Nat.le_refl _) (by omega) BX FX
 have HQ := Lib.hid hQ
 have Gx := gx.agree (SameF.of_below f14 (fun k q => by have := q; omega))
 have hGx : ∀ k, k < w.heap.size → k < w4.heap.size ∧ ¬ Q k := fun k q => ⟨by omega, fun r => by have := HQ.out k r; omega⟩
 refine (bits_spec _ w3.heap.size s Q _ (fun k => k < w.heap.size) ox _ x n w4 M4 (by omega) Gx hGx ix (by omega) hn30 lim.1 lim.2.1 (by omega) (by omega)).mono ?_; rintro e w5 ⟨u5, Q5, A5, rfl, M5, LS5, X5, hA5⟩
 obtain ⟨pr, kr, rfl, lpr, bpr⟩ := LS5.shape
 have z5 := X5.size
 have f25 : Below (w2.heap.size + 3) w4 w5 := X5.only.below HQ.out (by omega)
 have f15 : Below w1.heap.size w1 w5 := f14.trans (f25.mono (by omega))
 obtain ⟨hg, hq, fi5, fr5, vo, vh, vc, bx5, R1, F1, R2, F2, FO, rO, gr1, gr2, q1, q2, q3, q4⟩ := M5
 obtain ⟨Xo, Ko, rfl, -⟩ := id rO
 obtain ⟨Xh, Kh, rfl, -⟩ := gr1.shape
 obtain ⟨Xc, Kc, rfl, -⟩ := gr2.shape
 obtain ⟨t0, t1', t2', t3⟩ := id bx5
 obtain ⟨s0, s1, s2, s3⟩ := BS.keep f15 (by omega)
 have lS5 : w.heap.size < w5.heap.size := by omega
 have lG5 : w3.heap.size < w5.heap.size := by omega
 have RD : SysR false 0 w5.heap.size w5 (.int .i64 (bitsS s x n).ins) (.slice Xo (bitsS s x n).outs.length Ko) (.slice Xh (bitsS s x n).hints.length Kh) (.slice Xc (bitsS s x n).cons.length Kc) (bitsS s x n) :=
  ⟨rfl, fi5, 0, _, 0, _, 0, _, Nat.le_refl _, Nat.le_refl _, Nat.le_refl _, Nat.le_refl _, Nat.le_refl _, Nat.le_refl _, fun h => (by cases h), rO.read, gr1.read, gr2.read⟩
 have cF5 := cell_keep f15 cx
 have lF5 : w.heap.size + 1 < w5.heap.size := by omega
 have ND := ((ux.keep f15 (Nat.le_trans hhx e1.size)).mono (l' := lx) (h' := hx) (Nat.le_refl _) (Nat.le_refl _))
 clear hq fr5 bx5 rO gr1 gr2 q1 q2 q3 q4 X5 M4 BX FX own cx3 Gx gx
 go_wp2_with fail
 refine name_call fun w6 hw6 => ?_
 have e6 : Below w5.heap.size w5 w6 := by rw [hw6]; (repeat (with_reducible first | exact bR _ _ | assumption | refine bD ?_ | refine bN ?_ _ | refine bA ?_ _ | refine bS ?_ _))
 clear hw6
 have z6 := e6.size
 have f16 : Below w1.heap.size w1 w6 := f15.trans (e6.mono (by omega))
 have LS6 := LS5.keep e6 (Nat.le_refl _)
 obtain ⟨z, Hz⟩ : ∃ z, Hid (z = if sysOk (bitsS s x n) = true then x else []) := ⟨_, Lib.hid rfl⟩
 refine (done_spec o l h _ _ _ _ s false 0 w5.heap.size _ _ _ _ (bitsS s x n) ox lx hx _ x w6 (us.keep f16 (by omega)) (by omega) sm (RD.keep e6 (Nat.le_refl _)) z6 (small_bits sm hok (by omega) n hn30) (ND.keep e6 (by omega)) (by omega) (by omega) ok r z (Lib.hid Ho.out) (Lib.hid Hr.out) Hz).mono ?_; rintro e w7 ⟨ui, uo, uh, uc, u, F, G, rfl, f7, S7, T7, hF, hG⟩
 obtain ⟨yo, no', yh, nh', yc, nc', rfl, rfl, rfl, rfl, -⟩ := id S7.shape
 obtain ⟨p7, k7, rfl, lp7, bp7⟩ := T7.shape
 have z7 := f7.size
 have f17 : Below w1.heap.size w1 w7 := f16.trans (f7.mono (by omega))
 have LS7 := LS6.keep f7 z6
 clear BS us ts RD ND s0 s1 s2 s3 BS2 ux cx tx LS5 LS6
 cases ok
 ·have E3 : Hid (v = []) := Lib.hid (by rw [Hv.out, ← show (true && sysOk (bitsS s x n)) = sysOk (bitsS s x n) from rfl, ← Ho.out]; rfl)
  go_upto_region 7 with fail
  refine name_wp fun w8 hw8 => ?_
  have e8 : Below w7.heap.size w7 w8 := by rw [hw8]; (repeat (with_reducible first | exact bR _ _ | assumption | refine bD ?_ | refine bN ?_ _ | refine bA ?_ _ | refine bS ?_ _))
  have z8 : w7.heap.size + 2 ≤ w8.heap.size := by rw [hw8]; simp
  obtain ⟨b0, b1, b2, b3⟩ : Box4 w8 w7.heap.size (.int .i64 r.ins) (.slice yo r.outs.length no') (.slice yh r.hints.length nh') (.slice yc r.cons.length nc') := ⟨by rw [hw8]; first | (simp; done) | go_simp, by rw [hw8]; first | (simp; done) | go_simp, by rw [hw8]; first | (simp; done) | go_simp, by rw [hw8]; first | (simp; done) | go_simp⟩
  clear hw8
  have f18 : Below w1.heap.size w1 w8 := f17.trans (e8.mono (by omega))
  have BR2 := BR.keep f18 (by omega)
  obtain ⟨y0, y1, y2, y3⟩ := FR.keep f18 (by omega)
  obtain ⟨r0, r1, r2, r3⟩ := id BR2
  have lA : w.heap.size + 1 + 1 < w8.heap.size := by omega
  have lB : w7.heap.size < w8.heap.size := by omega
  have e9 : Below w.heap.size w w8 := e1.trans (f18.mono (by omega))
  have hF1 : ¬ F (w.heap.size + 1 + 1) := fun q => by have := hF _ q; omega
  obtain ⟨q0, q1, q2, q3⟩ := BR2.copied (.int .i64 r.ins) (.slice yo r.outs.length no') (.slice yh r.hints.length nh') (.slice yc r.cons.length nc')
  have S8 := (S7.agree (SameF.of_below e8 S7.lim) e8.size).agree (sameF_sets w8 (.int .i64 r.ins) (.slice yo r.outs.length no') (.slice yh r.hints.length nh') (.slice yc r.cons.length nc') hF1) (by simp)
  clear BR FR S7 T7 e8 f18 f17 LS7
  go_wp2_with fail
  generalize hY : World.setCell _ ⟨w.heap.size + 1 + 1, 3, none⟩ _ = Y at *
  have bY : Below w.heap.size w Y := by rw [← hY]; (repeat (with_reducible first | exact bR _ _ | assumption | refine bD ?_ | refine bN ?_ _ | refine bA ?_ _ | refine bS ?_ _))
  rw [E3.out]
  exact bodyPost_ret (v := .tuple #[.agg #[.int .i64 r.ins, .slice yo r.outs.length no', .slice yh r.hints.length nh', .slice yc r.cons.length nc'], .slice none 0 0, .bool false]) (by simp [results, Tryz.results19, go_sem, q0, q1, q2, q3]) rfl (ExtR.of rfl rfl rfl bY S8 (RowF.nil FShape.lin (fun _ => False) _) (fun k q => by have := hF k q; omega) (fun _ q => q.elim))
 have E3 : Hid (v = (bitsK s x n).2) := Lib.hid (by rw [Hv.out, ← show (true && sysOk (bitsS s x n)) = sysOk (bitsS s x n) from rfl, ← Ho.out]; rfl)
 rw [← E3.out] at LS7 lpr ⊢
 go_wp2_with fail
 refine name_wp fun w8 hw8 => ?_
 have e8 : Below w7.heap.size w7 w8 := by rw [hw8]; (repeat (with_reducible first | exact bR _ _ | assumption | refine bD ?_ | refine bN ?_ _ | refine bA ?_ _ | refine bS ?_ _))
 have z8 : w7.heap.size + 2 ≤ w8.heap.size := by rw [hw8]; simp
 have B8 : Box4 w8 w7.heap.size (.int .i64 r.ins) (.slice yo r.outs.length no') (.slice yh r.hints.length nh') (.slice yc r.cons.length nc') := ⟨by rw [hw8]; first | (simp; done) | go_simp, by rw [hw8]; first | (simp; done) | go_simp, by rw [hw8]; first | (simp; done) | go_simp, by rw [hw8]; first | (simp; done) | go_simp⟩
 clear hw8
 generalize hd : w8.drew = wd
 have ed : Below w8.heap.size w8 wd := by rw [← hd]; exact (Below.refl _ _).drew
 have zd := ed.size
 have e7d : Below w7.heap.size w7 wd := e8.trans (ed.mono (by omega))
 have f1d : Below w1.heap.size w1 wd := f17.trans (e7d.mono (by omega))
 have BR2 := BR.keep f1d (by omega)
 have FR2 := FR.keep f1d (by omega)
 have BD := B8.keep ed (by omega)
 have LSd := LS7.keep e7d (by omega)
 have SD := S7.agree (SameF.of_below e7d S7.lim) e7d.size
 have FL : Hid (∀ k, F k → w6.heap.size ≤ k ∧ k < w7.heap.size) := Lib.hid fun k q => ⟨hF k q, S7.lim k q⟩
 have hvl : v.length ≤ 1000 := by rw [E3.out, bitsK_len]; omega
 have hve : Hid (∀ y ∈ v, y.length ≤ 1048576) := Lib.hid fun y hy => by rw [E3.out] at hy; rw [bitsK_one s x n y hy]; omega
 have e1d : Below w.heap.size w wd := e1.trans (f1d.mono (by omega))
 clear BR FR S7 T7 e8 f17 LS7 B8 ed f7 f1d f16 f15 f14 f13 f25 f2 f3 E3 Ho Hr Hv Hz
 subst hd
 go_cut [7, 8] (fun s7 s8 wx => CutO (w.heap.size + 1 + 1) w8.drew v (.int .i64 r.ins) (.slice yo r.outs.length no') (.slice yh r.hints.length nh') (.slice yc r.cons.length nc') s7 s8 wx)
 case first =>
  rename_i J K' hJ hK
  refine wp_region_drawn [7, 8, 44, 45, 46] (fun d u wx => (d 0 = true → u 44 = .agg #[.int .i64 r.ins, .slice yo r.outs.length no', .slice yh r.hints.length nh', .slice yc r.cons.length nc']) ∧ (d 1 = true → u 45 = .slice pr v.length kr) ∧ (d 4 = true → d 2 = true ∧ u 7 = u 46) ∧ (d 5 = true → u 8 = .bool true) ∧
   (d 2 = true → ∃ a k, u 46 = .slice a v.length k ∧ NewR w8.drew.heap.size (fun _ => False) wx (.slice a v.length k) v) ∧ OnlyF (fun k => k = w.heap.size + 1 + 1) w8.drew wx ∧ Free4 wx (w.heap.size + 1 + 1) ∧
   (d 3 = false → Box4 wx (w.heap.size + 1 + 1) (.int .i64 0) (.slice none 0 0) (.slice none 0 0) (.slice none 0 0)) ∧ (d 3 = true → Box4 wx (w.heap.size + 1 + 1) (.int .i64 r.ins) (.slice yo r.outs.length no') (.slice yh r.hints.length nh') (.slice yc r.cons.length nc'))) (by kernel_rfl) (by kernel_rfl) (by kernel_rfl) ?_ ?_ ?_
  ·intro u; exact ⟨fun h => (by cases h), fun h => (by cases h), fun h => (by cases h), fun h => (by cases h), fun h => (by cases h), OnlyF.refl _ _, FR2, fun _ => BR2, fun h => (by cases h)⟩
  ·refine ⟨?_, ?_, ?_, ?_, ?_, ?_, trivial⟩
   ·intro d u wx h0 hdp hF
    obtain ⟨f0, f1, f4, f5, f2, on, fr, g0, g1⟩ := hF
    refine Wpv.env fun ρ hin hout hcon hfun => ?_
    have E11 : ρ (.tmp 11) = .pointer (some ⟨w7.heap.size, 0, none⟩) := (hout 11 (by kernel_rfl)).trans (by kernel_rfl)
    clear hin hout
    obtain ⟨x0, x1, x2, x3⟩ := BD
    have c0 := (on.cell (b := w7.heap.size) (by omega) (by omega) 0).trans x0
    have c1 := (on.cell (b := w7.heap.size) (by omega) (by omega) 1).trans x1
    have c2 := (on.cell (b := w7.heap.size) (by omega) (by omega) 2).trans x2
    have c3 := (on.cell (b := w7.heap.size) (by omega) (by omega) 3).trans x3
    refine Wpv.value (v := .agg #[.int .i64 r.ins, .slice yo r.outs.length no', .slice yh r.hints.length nh', .slice yc r.cons.length nc']) (w' := wx) ?_ ⟨fun _ => rfl, f1, f4, f5, f2, on, fr, g0, g1⟩
    clear f0 f1 f4 f5 f2 on fr g0 g1
    simp only [execOp]; rw [E11]; go_simp
   ·intro d u wx h0 hdp hF
    obtain ⟨f0, f1, f4, f5, f2, on, fr, g0, g1⟩ := hF
    refine Wpv.env fun ρ hin hout hcon hfun => ?_
    have E10 : ρ (.tmp 10) = .slice pr v.length kr := (hout 10 (by kernel_rfl)).trans (by kernel_rfl)
    clear hin hout
    refine Wpv.value (v := .slice pr v.length kr) (w' := wx) (by clear f0 f1 f4 f5 f2 on fr g0 g1; simp only [execOp]; rw [E10]; go_simp) ⟨f0, fun _ => rfl, f4, f5, f2, on, fr, g0, g1⟩
   ·intro d u wx h0 hdp hF
    obtain ⟨f0, f1, f4, f5, f2, on, fr, g0, g1⟩ := hF
    have n4 : d 4 = false := by cases h : d 4; rfl; have := (f4 h).1; rw [show d 2 = false from h0] at this; cases this
    refine Wpv.env fun ρ hin hout hcon hfun => ?_
    have E45 := (hin 45 (by kernel_rfl)).trans (f1 (hdp.get (j := 1) (by kernel_rfl)))
    clear hin hout
    have zx := on.size
    have Lx := LSd.agree (fun q h1 h2 => on.block q (by omega) (by omega))
    refine Wpv.enter (f := 42) (args := #[.slice pr v.length kr]) (w' := wx) (by clear f0 f1 f4 f5 f2 on fr g0 g1 Lx; go_simp) (ownAll_any _ _ _ _ v wx Lx (by omega) hvl hve.out) ?_
    rintro e' w' ⟨a1, rfl, j1, N1⟩
    obtain ⟨p, k, rfl, -⟩ := N1.shape
    have zj := j1.size
    exact ⟨_, rfl, ⟨f0, f1, nopm n4, f5, fun _ => ⟨p, k, rfl, N1.low (b2 := w8.drew.heap.size) zx (fun R F gq => gq.low2 zx)⟩, on.trans (OnlyF.of_below j1), fr.keep j1 (by omega), fun h => (g0 h).keep j1 (by omega), fun h => (g1 h).keep j1 (by omega)⟩⟩
   ·intro d u wx h0 hdp hF
    obtain ⟨f0, f1, f4, f5, f2, on, fr, g0, g1⟩ := hF
    refine Wpv.env fun ρ hin hout hcon hfun => ?_
    have E6 : ρ (.tmp 6) = .pointer (some ⟨w.heap.size + 1 + 1, 0, none⟩) := (hout 6 (by kernel_rfl)).trans (by kernel_rfl)
    have E44 := (hin 44 (by kernel_rfl)).trans (f0 (hdp.get (j := 0) (by kernel_rfl)))
    clear hin hout
    have zx := on.size
    have bx := g0 h0
    obtain ⟨c0, c1, c2, c3⟩ := id bx
    obtain ⟨r0, r1, r2, r3⟩ := id fr
    have lB : w.heap.size + 1 + 1 < wx.heap.size := by omega
    have on2 : OnlyF (fun k => k = w.heap.size + 1 + 1) w8.drew (set4 wx (w.heap.size + 1 + 1) (.int .i64 r.ins) (.slice yo r.outs.length no') (.slice yh r.hints.length nh') (.slice yc r.cons.length nc')) := by
     unfold set4
     exact (((on.setCell (p := ⟨_, 0, none⟩) rfl _).setCell (p := ⟨_, 1, none⟩) rfl _).setCell (p := ⟨_, 2, none⟩) rfl _).setCell (p := ⟨_, 3, none⟩) rfl _
    have on3 : SameF (fun q => w8.drew.heap.size ≤ q) wx (set4 wx (w.heap.size + 1 + 1) (.int .i64 r.ins) (.slice yo r.outs.length no') (.slice yh r.hints.length nh') (.slice yc r.cons.length nc')) := sameF_sets wx _ _ _ _ (by omega)
    have fr2 : Free4 (set4 wx (w.heap.size + 1 + 1) (.int .i64 r.ins) (.slice yo r.outs.length no') (.slice yh r.hints.length nh') (.slice yc r.cons.length nc')) (w.heap.size + 1 + 1) := by
     unfold set4; exact ⟨by simp only [World.frozen?_setCell]; exact r0, by simp only [World.frozen?_setCell]; exact r1, by simp only [World.frozen?_setCell]; exact r2, by simp only [World.frozen?_setCell]; exact r3⟩
    refine Wpv.skip (w' := set4 wx (w.heap.size + 1 + 1) (.int .i64 r.ins) (.slice yo r.outs.length no') (.slice yh r.hints.length nh') (.slice yc r.cons.length nc')) (by unfold set4; clear f0 f1 f4 f5 f2 on fr g0 g1 on2 on3 fr2 bx; go_simp) ?_
    refine ⟨f0, f1, f4, f5, fun h => ?_, on2, fr2, fun h => (by cases h), fun _ => bx.copied _ _ _ _⟩
    obtain ⟨a, k, e, R, F, gq, q1, q2⟩ := f2 h
    exact ⟨a, k, e, R, F, gq.agree (on3.sub fun q hq => (q2 q hq).1), q1, fun q hq => ⟨(q2 q hq).1, by have := (q2 q hq).2.1; unfold set4; simpa [World.setCell] using this, (q2 q hq).2.2⟩⟩
   ·intro d u wx h0 hdp hF
    obtain ⟨f0, f1, f4, f5, f2, on, fr, g0, g1⟩ := hF
    have D2 : d 2 = true := hdp.get (j := 2) (by kernel_rfl)
    refine Wpv.env fun ρ hin hout hcon hfun => ?_
    have E46 := hin 46 (by kernel_rfl)
    clear hin hout
    exact Wpv.value (v := u 46) (by simp only [execOp]; rw [E46]; rfl) ⟨f0, f1, fun _ => ⟨D2, rfl⟩, f5, f2, on, fr, g0, g1⟩
   ·intro d u wx h0 hdp hF
    obtain ⟨f0, f1, f4, f5, f2, on, fr, g0, g1⟩ := hF
    refine Wpv.env fun ρ hin hout hcon hfun => ?_
    clear hin hout
    exact Wpv.value (v := .bool true) (w' := wx) (by clear f0 f1 f4 f5 f2 on fr g0 g1; simp only [execOp]; first | (rw [hcon]; go_simp) | go_simp) ⟨f0, f1, f4, fun _ => rfl, f2, on, fr, g0, g1⟩
  ·intro d u wx hall hF
   obtain ⟨f0, f1, f4, f5, f2, on, fr, g0, g1⟩ := hF
   obtain ⟨a, k, e46, NN⟩ := f2 (hall 2 (by decide))
   have e7 := (f4 (hall 4 (by decide))).2
   have e8 := f5 (hall 5 (by decide))
   have fD : CutO (w.heap.size + 1 + 1) w8.drew v (.int .i64 r.ins) (.slice yo r.outs.length no') (.slice yh r.hints.length nh') (.slice yc r.cons.length nc') (u 7) (u 8) wx := ⟨e8, on, g1 (hall 3 (by decide)), a, k, e7.trans e46, NN⟩
   clear f0 f1 f4 f5 f2 on fr g0 g1 e7 e8 e46 NN
   refine hK _ _ (Met.intro (hJ _ _ ?_))
   simp only [setF, List.foldl_cons, List.foldl_nil, Act.put, List.setIfInBounds_toArray, List.set_cons_zero, List.set_cons_succ]
   repeat apply Exists.intro
   exact ⟨fD, rfl⟩
 obtain ⟨rfl, on, ⟨q0, q1, q2, q3⟩, a9, k9, rfl, NN⟩ := hcut
 have zc := on.size
 have eF : Below w.heap.size w wc := e1d.trans (on.below (B := w.heap.size) (fun k hk => by omega) (by omega))
 have SF := SD.agree (fun k hk => on.block k (by have := FL.out k hk; omega) (by have := FL.out k hk; omega)) zc
 have NR := NN.rowF
 clear on NN BD LSd SD e1d BR2 FR2 e7d
 go_wp2_with fail
 exact bodyPost_ret (v := .tuple #[.agg #[.int .i64 r.ins, .slice yo r.outs.length no', .slice yh r.hints.length nh', .slice yc r.cons.length nc'], .slice a9 v.length k9, .bool true]) (by simp [results, Tryz.results19, go_sem, q0, q1, q2, q3]) rfl (ExtR.of rfl rfl rfl eF SF NR (fun k q => by have := FL.out k q; omega) (fun k q => ⟨by have := q.1; omega, q.2.1, fun hq => by have := FL.out k hq; have := q.1; omega⟩))
end Go.Proofs.YtcenijdaacbgpaaGreat.L
