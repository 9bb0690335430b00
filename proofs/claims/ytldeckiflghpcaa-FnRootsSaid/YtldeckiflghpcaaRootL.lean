/- FnRoots: a drawn path is gone up step by step. -/
import Derived.Test.YtldeckiflghpcaaRootD
import Derived.Test.YtldeckiflghpcaaRoot2
import Derived.Test.YtldeckiflghpcaaB3
namespace Go.Proofs.Ytldeckiflghpcaa.L
open Go.RowKit Go.Proofs.Ytldeckiflghpcaa.S
set_option linter.unusedVariables false
set_option linter.unusedSimpArgs false

theorem ints_cut {lim : Nat} {w : World} {a : Option Addr} {n cap : Nat} {xs : List Int} (t : Ints lim w (.slice a n cap) xs) {k : Nat} (hk : k ≤ xs.length) : Ints lim w (.slice a k cap) (xs.take k) := by
  obtain ⟨a', cap', e, h1, h2, h3, h4⟩ := t
  simp only [Value.slice.injEq] at e
  obtain ⟨rfl, rfl, rfl⟩ := e
  have hl : (xs.take k).length = k := by simp; omega
  refine ⟨a, cap, by rw [hl], by omega, h2, fun x hx => h3 x (List.mem_of_mem_take hx), ?_⟩
  rcases h4 with h4 | ⟨b, off, e, hlt, hc⟩
  · subst h4; exact .inl (by simp)
  · refine .inr ⟨b, off, e, hlt, fun j x hj => hc j x ?_⟩
    have hjl : j < k := by have := (List.getElem?_eq_some_iff.1 hj).1; omega
    rw [List.getElem?_take, if_pos hjl] at hj
    exact hj
theorem IntSS.cut {l h : Nat} {w : World} {a : Option Addr} {n cap : Nat} {xs : List (List Int)} (t : IntSS false l h w (.slice a n cap) xs) {k : Nat} (hk : k ≤ xs.length) : IntSS false l h w (.slice a k cap) (xs.take k) := by
  obtain ⟨a', cap', e, h1, h2, h4⟩ := t
  simp only [List.cons.injEq, Value.slice.injEq, and_true] at e
  obtain ⟨rfl, rfl, rfl⟩ := e
  have hl : (xs.take k).length = k := by simp; omega
  refine ⟨a, cap, by rw [hl], by omega, h2, ?_⟩
  rcases h4 with h4 | ⟨b, off, e, hlo, hlt, hf, C, L, H, hd, hc⟩
  · subst h4; exact .inl (by simp)
  · refine .inr ⟨b, off, e, hlo, hlt, hf, C, L, H, (fun h => by cases h), fun j x hj => hc j x ?_⟩
    have hjl : j < k := by have := (List.getElem?_eq_some_iff.1 hj).1; omega
    rw [List.getElem?_take, if_pos hjl] at hj
    exact hj
theorem rootAt_take {leaf : List Int} {path : List (List Int)} {bits : List Int} {n : Nat} : ∀ k, k ≤ n → rootAt leaf (path.take n) (bits.take n) k = rootAt leaf path bits k := by
  intro k
  induction k with
  | zero => intro _; rfl
  | succ k ih =>
    intro hk
    simp only [rootAt]
    rw [ih (by omega), List.getElem?_take, if_pos (by omega), List.getElem?_take, if_pos (by omega)]
theorem okTo_take {path : List (List Int)} {bits : List Int} {n : Nat} : ∀ k, k ≤ n → okTo (path.take n) (bits.take n) k = okTo path bits k := by
  intro k
  induction k with
  | zero => intro _; rfl
  | succ k ih =>
    intro hk
    simp only [okTo, okAt]
    rw [ih (by omega), List.getElem?_take, if_pos (by omega), List.getElem?_take, if_pos (by omega)]
/-- What the law asks. -/
theorem root_last {leaf : List Int} {path : List (List Int)} {bits : List Int} {n : Nat} (hn : path.length = n + 1) (ok : pathB leaf path bits = true) :
    rootL leaf (path.take n) (bits.take n) = rootAt leaf path bits n ∧ isFour (rootAt leaf path bits n) ∧ (∃ p b, path[n]? = some p ∧ bits[n]? = some b ∧ isFour p ∧ rootL leaf path bits = upL (rootAt leaf path bits n) p b) := by
  have ok' := ok
  unfold pathB headB at ok
  simp only [Bool.and_eq_true, decide_eq_true_eq] at ok
  obtain ⟨⟨⟨hf, h3⟩, hs⟩, hto⟩ := ok
  have hlt : n < path.length := by omega
  have hlt2 : n < bits.length := by omega
  have hpl : (path.take n).length = n := by simp; omega
  have hbl : (bits.take n).length = n := by simp; omega
  refine ⟨?_, rootAt_four (fourB_elim hf) (okTo_pre hto (by omega)), path[n], bits[n], List.getElem?_eq_getElem hlt, List.getElem?_eq_getElem hlt2, okAt_four hto hlt, ?_⟩
  · rw [rootL_yes, hpl, rootAt_take n (Nat.le_refl _)]
    refine pathB_yes ?_ ?_
    · unfold headB; simp [hf]; omega
    · rw [hpl, okTo_take n (Nat.le_refl _)]; exact okTo_pre hto (by omega)
  · rw [rootL_yes ok', hn]
    exact rootAt_step hlt (List.getElem?_eq_getElem hlt2)
theorem mix_one : (mixL [1]).length = 4 := by
  rw [mixL_yes (by simp) (by decide)]
  obtain ⟨_, _, _, _, e, -⟩ := mixM_four (xs := [1]) (by simp) (by decide)
  rw [e]; rfl

set_option maxRecDepth 100000 in
set_option maxHeartbeats 2400000 in
theorem law_FnRoots (a : Option Addr) (len cap : Nat) (w : World) (hr : Row w.heap.size w a len) :
    Calls Try.prog 9 #[.slice a len cap] w fun e w' => e = .returned (.bool true) ∧ Below w.heap.size w w' := by
  go_enter Try.func9, Try.ntmps9
  go_wp2_with fail
  refine (drawRoot_any a len cap w hr).mono ?_
  rintro e w1 ⟨u0, u1, u2, leaf, path, bits, rfl, t0, t1, t2, hl, hp, hb, h4, be1⟩
  have z1 := be1.size
  go_wp2_with fail
  refine (root_impl false 0 w1.heap.size w1.heap.size w1.heap.size u0 u1 u2 leaf path bits w1 t0 t1 t2 (Nat.le_refl _) (Nat.le_refl _) (Nat.le_refl _)).mono ?_
  rintro e w2 ⟨r, rfl, f2, R2⟩
  have be2 := be1.trans (f2.mono z1)
  have z2 := f2.size
  have s0 := t0.keep f2 (Nat.le_refl _)
  have s1 := t1.keep f2 (Nat.le_refl _)
  have s2 := t2.keep f2 (Nat.le_refl _)
  clear t0 t1 t2 f2
  obtain ⟨a0, k0, rfl, l0, b0⟩ := s0.shape
  obtain ⟨a1, k1, rfl, l1, b1⟩ := s1.shape
  obtain ⟨a2, k2, rfl, l2, b2⟩ := s2.shape
  obtain ⟨ar, kr, rfl, lr, br⟩ := R2.shape
  by_cases hc : pathB leaf path bits = true ∧ 0 < path.length
  case' neg =>
    have key : ((((rootL leaf path bits).length : Int) == 0) = true) ∨ (((((rootL leaf path bits).length : Int) == 0) = false) ∧ (((path.length : Int) == 0) = true)) := by
      cases hq : pathB leaf path bits with
      | false => left; rw [rootL_no hq]; rfl
      | true =>
        by_cases h0 : (rootL leaf path bits).length = 0
        · left; simp [h0]
        · right
          have : path.length = 0 := by
            by_cases q : 0 < path.length
            · exact absurd ⟨hq, q⟩ hc
            · omega
          exact ⟨by rw [beq_eq_false_iff_ne]; omega, by simp [this]⟩
    generalize (rootL leaf path bits).length = n at *
    have H4 := Lib.hid mix_one
    clear R2 hc hl hb
    rcases key with q | ⟨q1, q2⟩
    all_goals (
      go_wp2_with fail
      refine name_call fun w3 hw3 => ?_
      have f3 : Below w2.heap.size w2 w3 := by rw [hw3]; (repeat (with_reducible first | exact bR _ _ | assumption | refine bD ?_ | refine bN ?_ _ | refine bA ?_ _ | refine bS ?_ _))
      have T : Nums true w2.heap.size w3.heap.size w3 (.slice (some ⟨w2.heap.size, 0, none⟩) 1 1) [1] := by
        rw [hw3]
        refine ⟨_, 1, rfl, by simp, by omega, fun x hx => by simp at hx; subst hx; unfold S.Fits; omega, .inr ⟨w2.heap.size, 0, rfl, Nat.le_refl _, by simp, fun _ j => by simp, fun j x hj => ?_⟩⟩
        match j, hj with
        | 0, hj => simp at hj; subst hj; simp
        | j + 1, hj => simp at hj
      have z3 := f3.size
      clear hw3
      refine (mix_impl _ _ [1] w3 T.ints (Nat.le_refl _) (by simp)).mono ?_
      rintro e w4 ⟨x, rfl, f4, X4⟩
      obtain ⟨ax, kx, rfl, lx, bx⟩ := X4.shape
      have be4 := (be2.trans (f3.mono (by omega))).trans (f4.mono (by omega))
      have e4 : (((mixL [1]).length : Int) == 4) = true := by rw [H4.out]; rfl
      clear X4 T
      go_wp2_with fail
      go_ret
      exact ⟨rfl, be4⟩)
  obtain ⟨ok, hlen⟩ := hc
  obtain ⟨n, hn⟩ : ∃ n, path.length = n + 1 := ⟨path.length - 1, by omega⟩
  obtain ⟨eL, fL, p, b, ep, eb, fp, eR⟩ := root_last hn ok
  have hlt : n < path.length := by omega
  have hlt2 : n < bits.length := (List.getElem?_eq_some_iff.1 eb).1
  rw [eR] at R2 lr ⊢
  have HR4 := Lib.hid (four_len (upL_four (b := b) fL fp))
  obtain ⟨bb, off, vp, rfl, -, -, cp, tp⟩ := s1.at hlt
  have ep2 : path[n] = p := by rw [List.getElem?_eq_getElem hlt] at ep; simpa using ep
  rw [ep2] at tp
  obtain ⟨ap, kp, rfl, lp, bp⟩ := tp.shape
  obtain ⟨bd, of2, b', rfl, -, cb, eb', -⟩ := s2.at hlt2
  rw [eb] at eb'
  simp only [Option.some.injEq] at eb'
  subst eb'
  have S1 := s1.cut (k := n) (by omega)
  have S2 := ints_cut s2 (k := n) (by omega)
  have HRt := Lib.hid (root_impl false 0 w1.heap.size w1.heap.size w1.heap.size (.slice a0 leaf.length k0) (.slice (some ⟨bb, off, none⟩) n k1) (.slice (some ⟨bd, of2, none⟩) n k2) leaf (path.take n) (bits.take n))
  have HEL := Lib.hid eL
  obtain ⟨c, hc⟩ : ∃ c, c = rootAt leaf path bits n := ⟨_, rfl⟩
  rw [← hc] at fL R2 lr HR4 ⊢
  have HC4 := Lib.hid (four_len fL)
  have HP4 := Lib.hid (four_len fp)
  have H8 := Lib.hid (And.intro (eight fL fp) (eight fp fL))
  have HCC := Lib.hid hc
  have HN := Lib.hid hn
  have k1n : (n : Int) ≤ k1 := by omega
  have k2n : (n : Int) ≤ k2 := by omega
  have er : (((upL c p b).length : Int) == 0) = false := by rw [HR4.out]; rfl
  have eq0 : ((path.length : Int) == 0) = false := by rw [HN.out]; rw [beq_eq_false_iff_ne]; omega
  have hw1 : wrap64 ((path.length : Int) - 1) = (n : Int) := by unfold wrap64; omega
  have hw2 : (path.length : Int) - 1 = (n : Int) := by omega
  have hw3 : IntKind.i64.wrap ((path.length : Int) - 1) = (n : Int) := by rw [IntKind.wrap_i64]; omega
  clear hn hc ep eb ep2 eL eR s1 s2 fL fp ok hlen hl h4
  go_wp2_with fail
  have zd2 : w2.heap.size ≤ w2.drew.heap.size := Nat.le_refl _
  go_region_held3 (fun w' => True) (exact trivial)
    (first | (go_at_call 23; (with_reducible refine (HRt.out w2.drew (s0.keep ((Below.refl _ _).drew) (by omega)) (S1.keep ((Below.refl _ _).drew) (by omega)) (S2.keep ((Below.refl _ _).drew) (by omega)) (by omega) (by omega) (by omega)).mono ?_); rintro e w3 ⟨lo, rfl, f3, L3⟩))
  have be3 : Below w.heap.size w w3 := be2.trans ((((Below.refl _ _).drew).trans f3).mono (by omega))
  have z3 := f3.size
  have g3 : Below w2.heap.size w2 w3 := ((Below.refl _ _).drew).trans f3
  rw [HEL.out, ← HCC.out] at L3
  have cp3 := ck g3 cp
  have cb3 := ck g3 cb
  have tp3 := tp.ints.keep g3 (by omega)
  have R3 := R2.keep g3 (Nat.le_refl _)
  obtain ⟨al, kl, rfl, ll, bl⟩ := L3.shape
  obtain ⟨bo, oo, y, rfl, y0, -, -⟩ := L3.at (k := 0) (by rw [HC4.out]; omega)
  have ec4 : ((c.length : Int) != 4) = false := by rw [HC4.out]; rfl
  have hcl : c.length ≤ 4 := by rw [HC4.out]; omega
  have hpl : p.length ≤ 4 := by rw [HP4.out]; omega
  have hc0 : 0 < c.length := by rw [HC4.out]; omega
  have hp0 : 0 < p.length := by rw [HP4.out]; omega
  have HFc := Lib.hid (ints_fits L3.ints)
  have HFp := Lib.hid (ints_fits tp3)
  have tl3 := L3.ints
  obtain ⟨bq, oq, yq, rfl, -, yq0, -, -⟩ := tp3.at (k := 0) hp0
  clear yq0
  clear cp cb tp R2 s0 S1 S2 HRt HEL HCC f3 y0 be1 be2 g3
  obtain ⟨i0, hi0, hz0, hz1, hz2⟩ := info_parts S.intInfo
  go_wp2_with fail
  have CE : w3.cell? ⟨bb, off + n, none⟩ = some (.slice (some ⟨bq, oq, none⟩) p.length kp) := cp3
  have row0 : (w3.alloc (.cells #[] 3)).drew.ownsRow w3.heap.size 3 1 (.slice (some ⟨w3.heap.size, 0, none⟩) 0 0) 0 (iv []) := row_made _ _ w3 (Nat.le_refl _)
  have A1 : Below w3.heap.size w3 (w3.alloc (.cells #[] 3)).drew := ((Below.refl _ _).alloc (Nat.le_refl _) _).drew
  have C5 := Lib.hid (ints_cells (tl3.keep A1 (Nat.le_refl _)))
  have P5 := Lib.hid tp3
  have CE1 := ck A1 CE
  have CE0 : w3.drew.cell? ⟨bb, off + n, none⟩ = some (.slice (some ⟨bq, oq, none⟩) p.length kp) := CE
  go_region_held3 (fun w' => w'.cell? ⟨bb, off + n, none⟩ = some (.slice (some ⟨bq, oq, none⟩) p.length kp)) (first | exact CE0 | exact CE | exact CE1 | exact CE5 | exact CE6)
    (first
      | (refine step_append_lies ((w3.alloc (.cells #[] 3)).drew) rfl _ _ 24 rfl w3.heap.size 3 i0 (.int .i64 0) 1 8 Try.underlying24 hi0 hz0 hz1 hz2 rfl (by decide) (.slice (some ⟨w3.heap.size, 0, none⟩) 0 0) 0 (iv []) rfl row0 ⟨bo, oo, none⟩ c.length kl (iv c) rfl (iv_length c) (C5.out.2 _ rfl) (iv_one c) hc0 (by unfold maxLen; omega) (by omega) (by simp) _ rfl ?_; intro g5 cap5 w5 own5 grow5 at5 lt5; go_loud (have e5 : Below w3.heap.size (w3.alloc (.cells #[] 3)).drew w5 := below_grown grow5 A1.size (fun k e => (by simp [Value.ownBlock] at e; omega)); have CE5 := (e5.cell (p := ⟨bb, off + n, none⟩) (World.block_lt_of_cell? _ _ CE)).trans CE1; have D5 := Lib.hid (ints_cells ((P5.out.keep A1 (by omega)).keep e5 (by omega))); have z5 : w3.heap.size ≤ w5.heap.size := Nat.le_trans A1.size e5.size; rw [← iv_append, List.nil_append] at own5))
      | (refine step_append_lies w5 rfl _ _ 24 rfl w3.heap.size 3 i0 (.int .i64 0) 1 8 Try.underlying24 hi0 hz0 hz1 hz2 rfl (by decide) (.slice (some ⟨g5, 0, none⟩) (0 + c.length) cap5) (0 + c.length) (iv c) rfl own5 ⟨bq, oq, none⟩ p.length kp (iv p) rfl (iv_length p) (D5.out.2 _ rfl) (iv_one p) hp0 (by unfold maxLen; omega) (by omega) (by omega) _ rfl ?_; intro g6 cap6 w6 own6 grow6 at6 lt6; go_loud (have e6 : Below w3.heap.size w5 w6 := below_grown grow6 (by omega) (fun k e => (own5.lt k e).1); have CE6 := (e6.cell (p := ⟨bb, off + n, none⟩) (World.block_lt_of_cell? _ _ CE)).trans CE5)))
  have b36 : Below w3.heap.size w3 w6 := (A1.trans e5).trans e6
  have be6 := be3.trans (b36.mono (by omega))
  have z6 := b36.size
  rw [← iv_append] at own6
  rw [Nat.zero_add] at own6
  have N6 : Nums true w3.heap.size w6.heap.size w6 (.slice (some ⟨g6, 0, none⟩) (c.length + p.length) cap6) (c ++ p) := Nums.own (by rw [List.length_append]; exact own6) (by intro x hx; rcases List.mem_append.1 hx with h | h; exact HFc.out x h; exact HFp.out x h)
  have HN6 := Lib.hid N6
  have cb6 := ck b36 cb3
  have cp6 := ck b36 cp3
  have tp6 := tp3.keep b36 (by omega)
  have tl6 := tl3.keep b36 (Nat.le_refl _)
  have R6 := R3.keep b36 (by omega)
  clear N6 own6 own5 e5 e6 A1 CE CE0 CE1 CE5 CE6 C5 P5 D5 row0 cb3 cp3 tp3 tl3 R3 grow5 grow6 at5 at6
  have hbl : bb < w6.heap.size := World.block_lt_of_cell? _ _ cp6
  clear L3 hw1 hw2 hw3 er eq0 ec4
  by_cases hb1 : b = 1
  case' neg =>
    have hbe : (b == 1) = false := by simp [hb1]
    have HUP := Lib.hid (show upL c p b = mixM (c ++ p) from upL_other hb1)
    have RK := Lib.hid R6
    clear R6 tp6 tl6 cp6 hb1
    go_wp2_with fail
    refine (mix_impl _ _ (c ++ p) w6 HN6.out.ints (Nat.le_refl _) (by rw [H8.out.1.1]; omega)).mono ?_
    rintro e w10 ⟨x, rfl, f10, X10⟩
    rw [mixL_yes (by rw [H8.out.1.1]; omega) H8.out.1.2] at X10
    have R10 := RK.out.keep f10 (by omega)
    have be10 := be6.trans (f10.mono (by omega))
    have hs := sameInts_any w10.heap.size _ _ _ _ w10 (R10.ints.mono (by have := f10.size; omega)) X10.ints
    rw [decide_eq_true HUP.out] at hs
    have HS := Lib.hid hs
    clear hs X10 R10
    go_wp2_with fail
    refine HS.out.mono ?_
    rintro e w11 ⟨rfl, f11⟩
    have be11 := be10.trans (f11.mono (by have := f10.size; omega))
    go_wp2_with fail
    go_ret
    exact ⟨rfl, be11⟩
  case' pos =>
    subst hb1
    have HUP := Lib.hid (show upL c p 1 = mixM (p ++ c) from upL_one c p)
    go_wp2_with (at_builtin; refine name_list ?_)
    intro W hW
    have b7 : Below w6.heap.size w6 W := by rw [hW]; (repeat (with_reducible first | exact bR _ _ | assumption | refine bD ?_ | refine bN ?_ _ | refine bA ?_ _ | refine bS ?_ _))
    have z7 : w6.heap.size + 1 ≤ W.heap.size := by rw [hW]; simp
    have row7 : W.ownsRow w6.heap.size 3 1 (.slice (some ⟨w6.heap.size, 0, none⟩) 0 0) 0 (iv []) := by rw [hW]; exact row_made _ _ _ (Nat.le_refl _)
    have CP := Lib.hid (ints_cells (tp6.keep b7 (by omega)))
    clear hW
    go_wp2_with (first
      | (at_builtin; refine wpList_append_spread _ rfl _ _ 24 rfl w6.heap.size 3 i0 (.int .i64 0) 1 8 Try.underlying24 hi0 hz0 hz1 hz2 rfl (by decide) (.slice (some ⟨w6.heap.size, 0, none⟩) 0 0) 0 (iv []) rfl row7 _ _ _ (iv p) rfl (iv_length p) CP.out.1 CP.out.2 (iv_one p) (by unfold maxLen; omega) (by omega) (by omega) ?_; rintro v8 w8 ⟨own8, grow8, -⟩; rw [← iv_append, List.nil_append, Nat.zero_add] at own8; obtain ⟨a8, c8, rfl⟩ := own_slice own8; have e8 : Below w6.heap.size W w8 := below_grown grow8 (by omega) (fun k e => (by simp [Value.ownBlock] at e; omega)); have b8 := b7.trans e8; have z8 := b8.size; have CL := Lib.hid (ints_cells (tl6.keep b8 (by omega))); have hk := fun k e => (own8.lt k e).1; have gr := Lib.hid (fun (w' : World) (h : w8.grownBy w' (Value.slice a8 p.length c8).ownBlock) => below_grown h z8 hk); clear hk row7 grow8 e8)
      | (at_builtin; refine wpList_append_spread _ rfl _ _ 24 rfl w6.heap.size 3 i0 (.int .i64 0) 1 8 Try.underlying24 hi0 hz0 hz1 hz2 rfl (by decide) (.slice a8 p.length c8) p.length (iv p) rfl own8 _ _ _ (iv c) rfl (iv_length c) CL.out.1 CL.out.2 (iv_one c) (by unfold maxLen; omega) (by omega) (by omega) ?_; rintro v9 w9 ⟨own9, grow9, -⟩; rw [← iv_append] at own9; have b9 := b8.trans (gr.out _ grow9); obtain ⟨a9, c9, rfl⟩ := own_slice own9; have z9 := b9.size; have N9 : Nums true w6.heap.size w9.heap.size w9 (.slice a9 (p.length + c.length) c9) (p ++ c) := Nums.own (by rw [List.length_append]; exact own9) (fun x hx => (List.mem_append.1 hx).elim (HFp.out x) (HFc.out x)); have HN9 := Lib.hid N9; have be9 := be6.trans (b9.mono (by omega)); have RK := Lib.hid (R6.keep b9 (by omega)); clear N9 own9 own8 grow9 gr R6 tp6 tl6 cp6 CL CP b8 b7))
    refine (mix_impl _ _ (p ++ c) w9 HN9.out.ints (Nat.le_refl _) (by rw [H8.out.2.1]; omega)).mono ?_
    rintro e w10 ⟨x, rfl, f10, X10⟩
    rw [mixL_yes (by rw [H8.out.2.1]; omega) H8.out.2.2] at X10
    have R10 := RK.out.keep f10 (by omega)
    have be10 := be9.trans (f10.mono (by omega))
    have hs := sameInts_any w10.heap.size _ _ _ _ w10 (R10.ints.mono (by have := f10.size; omega)) X10.ints
    rw [decide_eq_true HUP.out] at hs
    have HS := Lib.hid hs
    clear hs X10 R10
    go_wp2_with fail
    refine HS.out.mono ?_
    rintro e w11 ⟨rfl, f11⟩
    have be11 := be10.trans (f11.mono (by have := f10.size; omega))
    go_wp2_with fail
    go_ret
    exact ⟨rfl, be11⟩
end Go.Proofs.Ytldeckiflghpcaa.L
