/- The path's root: the model's and the program's. -/
import Derived.Test.YtldeckiflghpcaaRootS
import Derived.Test.YtldeckiflghpcaaConcat
namespace Go.Proofs.Ytldeckiflghpcaa.L
open Go.RowKit Go.Proofs.Ytldeckiflghpcaa.S
set_option linter.unusedVariables false
set_option linter.unusedSimpArgs false

theorem upL_one (c e : List Int) : upL c e 1 = mixM (e ++ c) := if_pos rfl
theorem upL_other {c e : List Int} {b : Int} (h : ¬ b = 1) : upL c e b = mixM (c ++ e) := if_neg h
theorem four_len {x : List Int} (h : isFour x) : x.length = 4 := by obtain ⟨_, _, _, _, rfl, -⟩ := h; rfl
theorem okTo_pre {path : List (List Int)} {bits : List Int} {n : Nat} (h : okTo path bits n = true) : ∀ {k : Nat}, k ≤ n → okTo path bits k = true := by
  intro k
  induction k with
  | zero => intro _; rfl
  | succ k ih => intro hk; exact okTo_step (ih (by omega)) (okTo_le h k (by omega))
theorem okAt_four {path : List (List Int)} {bits : List Int} {k : Nat} (h : okTo path bits path.length = true) (hk : k < path.length) : isFour path[k] := by
  have a := okTo_le h k hk
  unfold okAt okB at a
  rw [List.getElem?_eq_getElem hk] at a
  simp only [Option.getD_some, Bool.and_eq_true] at a
  exact fourB_elim a.1.1

set_option maxRecDepth 100000 in
set_option maxHeartbeats 3200000 in
theorem l5root_any (o l h lim1 lim2 v0 v1 v2) (leaf : List Int) (path : List (List Int)) (bits : List Int) (w : World) (t0 : Ints lim1 w v0 leaf) (t1 : IntSS o l h w v1 path) (t2 : Ints lim2 w v2 bits) (hw : h ≤ w.heap.size) (hw1 : lim1 ≤ w.heap.size) (hw2 : lim2 ≤ w.heap.size) (ok : pathB leaf path bits = true) :
    Calls Try.prog 43 #[v0, v1, v2] w (ResN w (rootAt leaf path bits path.length)) := by
  obtain ⟨a0, k0, rfl, l0, b0⟩ := t0.shape
  obtain ⟨a1, k1, rfl, l1, b1⟩ := t1.shape
  obtain ⟨a2, k2, rfl, l2, b2⟩ := t2.shape
  obtain ⟨i0, hi0, hz0, hz1, hz2⟩ := info_parts S.intInfo
  have HF := Lib.hid (ints_fits t0)
  have ok' := ok
  unfold pathB headB at ok
  simp only [Bool.and_eq_true, decide_eq_true_eq] at ok
  obtain ⟨⟨⟨hf, h3⟩, hs⟩, hto⟩ := ok
  have HL := Lib.hid (fourB_elim hf)
  have H4L := Lib.hid (four_len (fourB_elim hf))
  have HS := Lib.hid hs
  have HTO := Lib.hid hto
  clear ok' hf hs hto
  go_enter Try.func43, Try.ntmps43
  go_wp2_with (at_builtin; refine name_list ?_)
  intro W hW
  have b1' : Below w.heap.size w W := by rw [hW]; (repeat (with_reducible first | exact bR _ _ | assumption | refine bD ?_ | refine bN ?_ _ | refine bA ?_ _ | refine bS ?_ _))
  have C := Lib.hid (ints_cells (t0.keep b1' hw1))
  have row0 : W.ownsRow w.heap.size 3 1 (.slice (some ⟨w.heap.size, 0, none⟩) 0 0) 0 (iv []) := by rw [hW]; exact row_made _ _ _ (Nat.le_refl _)
  have z1 := b1'.size
  have hll : leaf.length ≤ 4 := by rw [H4L.out]; omega
  clear hW
  go_wp2_with (at_builtin; refine wpList_append_spread _ rfl _ _ 24 rfl w.heap.size 3 i0 (.int .i64 0) 1 8 Try.underlying24 hi0 hz0 hz1 hz2 rfl (by decide) (.slice (some ⟨w.heap.size, 0, none⟩) 0 0) 0 (iv []) rfl row0 _ _ _ (iv leaf) rfl (iv_length leaf) C.out.1 C.out.2 (iv_one leaf) (by unfold maxLen; omega) (by omega) z1 ?_; rintro v' w5 ⟨hown, hgrow, -⟩; obtain ⟨a', cap', rfl⟩ := own_slice hown; have e5 : Below w.heap.size W w5 := below_grown (row := some w.heap.size) hgrow z1 (fun k e => by simp at e; omega); have b5 := b1'.trans e5; have fin := Nums.own (by simpa [iv] using hown) HF.out)
  clear hown hgrow row0 C e5
  go_wp2_with fail
  go_loopw [7, 8] (fun u i wr => ∃ k : Nat, k ≤ path.length ∧ i = .int .i64 k ∧ Below w.heap.size w wr ∧ Nums true w.heap.size wr.heap.size wr u (rootAt leaf path bits k)) (fun _ i _ => path.length - (intOf i).toNat)
  case atStart => exact ⟨0, Nat.zero_le _, rfl, b5, fin⟩
  case round =>
    obtain ⟨k, hk, rfl, be, tc⟩ := hrel
    clear b5 fin b1' z1
    have zr := be.size
    by_cases hlt : k < path.length
    case' neg =>
      obtain rfl : k = path.length := by omega
      go_wp2_with fail
      go_ret
      exact ⟨_, rfl, be, tc⟩
    have hlt2 : k < bits.length := by rw [HS.out]; exact hlt
    obtain ⟨c, hc⟩ : ∃ c, c = rootAt leaf path bits k := ⟨_, rfl⟩
    have H4 := Lib.hid (show isFour c by rw [hc]; exact rootAt_four HL.out (okTo_pre HTO.out (by omega)))
    rw [← hc] at tc
    have hcl : c.length ≤ 4 := by rw [four_len H4.out]; omega
    have HFc := Lib.hid (ints_fits tc.ints)
    have tc := tc.ints
    obtain ⟨ac, kc, rfl, lc, bc⟩ := tc.shape
    obtain ⟨bb, off, u, rfl, q1, q2, c1, tu⟩ := (t1.keep be hw).at hlt
    have HFp := Lib.hid (ints_fits tu.ints)
    obtain ⟨a3, k3, rfl, l3, b3⟩ := tu.shape
    have tp := tu.ints
    have HP := Lib.hid (okAt_four HTO.out hlt)
    have hpl : path[k].length ≤ 4 := by rw [four_len HP.out]; omega
    obtain ⟨bd, of2, b, rfl, -, c2, eb, fb⟩ := (t2.keep be hw2).at hlt2
    clear tu t0 t1 t2
    by_cases hb1 : b = 1
    case' pos =>
      have HM := Lib.hid (by have := rootAt_step (leaf := leaf) hlt eb; rw [hb1, upL_one, ← hc] at this; exact this)
      have E8 := Lib.hid (eight (x := path[k]) (y := c) HP.out H4.out)
      have hbe : (b == 1) = true := by simp [hb1]
      clear hc eb fb
      have HB := Lib.hid hb1; clear hb1; obtain rfl := HB.out
      go_wp2_with fail
      go_region
      go_wp2_with (at_builtin; refine name_list ?_)
      intro W hW
      have b1 : Below wr.heap.size wr W := by rw [hW]; (repeat (with_reducible first | exact bR _ _ | assumption | refine bD ?_ | refine bN ?_ _ | refine bA ?_ _ | refine bS ?_ _))
      have row0 : W.ownsRow wr.heap.size 3 1 (.slice (some ⟨wr.heap.size, 0, none⟩) 0 0) 0 (iv []) := by rw [hW]; exact row_made _ _ _ (Nat.le_refl _)
      have z1 : wr.heap.size + 1 ≤ W.heap.size := by rw [hW]; simp
      clear hW
      have CX := Lib.hid (ints_cells (tp.keep b1 (by omega)))
      go_wp2_with (first | (at_builtin; refine wpList_append_spread _ rfl _ _ 24 rfl wr.heap.size 3 i0 (.int .i64 0) 1 8 Try.underlying24 hi0 hz0 hz1 hz2 rfl (by decide) (.slice (some ⟨wr.heap.size, 0, none⟩) 0 0) _ (iv []) rfl row0 _ _ _ (iv path[k]) rfl (iv_length path[k]) CX.out.1 CX.out.2 (iv_one path[k]) (by unfold maxLen; omega) (by omega) (by omega) ?_; rintro v5 w5 ⟨hown5, hgrow5, -⟩; rw [← iv_append, List.nil_append, Nat.zero_add] at hown5; obtain ⟨a5, c5, rfl⟩ := own_slice hown5; have e5 : Below wr.heap.size W w5 := below_grown hgrow5 (by omega) (fun k e => (by simp [Value.ownBlock] at e; omega)); have z5 := e5.size; have z5' : wr.heap.size ≤ w5.heap.size := Nat.le_trans (by omega) hgrow5.size; have b5 := b1.trans e5; have CY := Lib.hid (ints_cells (tc.keep b5 (by omega))); have hk := fun k e => (hown5.lt k e).1; have gr := Lib.hid (fun (w' : World) (h : w5.grownBy w' (Value.slice a5 (path[k]).length c5).ownBlock) => below_grown h z5' hk); clear row0 hgrow5 e5 hk) | (at_builtin; refine wpList_append_spread _ rfl _ _ 24 rfl wr.heap.size 3 i0 (.int .i64 0) 1 8 Try.underlying24 hi0 hz0 hz1 hz2 rfl (by decide) (.slice a5 (path[k]).length c5) _ (iv path[k]) rfl hown5 _ _ _ (iv c) rfl (iv_length c) CY.out.1 CY.out.2 (iv_one c) (by unfold maxLen; omega) (by omega) (by omega) ?_; rintro v6 w6 ⟨hown6, hgrow6, -⟩))
      rw [← iv_append, ← List.length_append] at hown6
      have e6 := gr.out _ hgrow6
      have b6 := b5.trans e6
      obtain ⟨a6, c6, rfl⟩ := own_slice hown6
      have z6 := b6.size
      have N6 := Nums.own (ts := path[k] ++ c) hown6 (by intro x hx; rcases List.mem_append.1 hx with h | h; exact HFp.out x h; exact HFc.out x h)
      have HN := Lib.hid N6
      clear hown5 hown6 hgrow6 e6 gr CX CY N6
      go_wp2_with fail
      refine (l5mix_any _ _ (path[k] ++ c) w6 HN.out.ints (Nat.le_refl _) (by rw [E8.out.1]; omega) E8.out.2).mono ?_; rintro e w7 ⟨u7, rfl, f7, q7⟩
      have be7 := be.trans ((b6.trans (f7.mono z6)).mono zr)
      have q8 : Nums true w.heap.size w7.heap.size w7 u7 (rootAt leaf path bits (k + 1)) := by rw [HM.out]; exact q7.mono (by omega) (Nat.le_refl _)
      clear tc tp q7 f7 HN
      go_wp2_with fail
      go_roundw
      case rel => exact ⟨k + 1, by omega, by go_num, be7, q8⟩
      case measure => simp [intOf]; omega
    case' neg =>
      have HM := Lib.hid (by have := rootAt_step (leaf := leaf) hlt eb; rw [upL_other hb1, ← hc] at this; exact this)
      have E8 := Lib.hid (eight (x := c) (y := path[k]) H4.out HP.out)
      have hbe : (b == 1) = false := by simp [hb1]
      clear hc eb fb
      go_wp2_with fail
      go_region
      go_wp2_with (at_builtin; refine name_list ?_)
      intro W hW
      have b1 : Below wr.heap.size wr W := by rw [hW]; (repeat (with_reducible first | exact bR _ _ | assumption | refine bD ?_ | refine bN ?_ _ | refine bA ?_ _ | refine bS ?_ _))
      have row0 : W.ownsRow wr.heap.size 3 1 (.slice (some ⟨wr.heap.size, 0, none⟩) 0 0) 0 (iv []) := by rw [hW]; exact row_made _ _ _ (Nat.le_refl _)
      have z1 : wr.heap.size + 1 ≤ W.heap.size := by rw [hW]; simp
      clear hW
      have CX := Lib.hid (ints_cells (tc.keep b1 (by omega)))
      go_wp2_with (first | (at_builtin; refine wpList_append_spread _ rfl _ _ 24 rfl wr.heap.size 3 i0 (.int .i64 0) 1 8 Try.underlying24 hi0 hz0 hz1 hz2 rfl (by decide) (.slice (some ⟨wr.heap.size, 0, none⟩) 0 0) _ (iv []) rfl row0 _ _ _ (iv c) rfl (iv_length c) CX.out.1 CX.out.2 (iv_one c) (by unfold maxLen; omega) (by omega) (by omega) ?_; rintro v5 w5 ⟨hown5, hgrow5, -⟩; rw [← iv_append, List.nil_append, Nat.zero_add] at hown5; obtain ⟨a5, c5, rfl⟩ := own_slice hown5; have e5 : Below wr.heap.size W w5 := below_grown hgrow5 (by omega) (fun k e => (by simp [Value.ownBlock] at e; omega)); have z5 := e5.size; have z5' : wr.heap.size ≤ w5.heap.size := Nat.le_trans (by omega) hgrow5.size; have b5 := b1.trans e5; have CY := Lib.hid (ints_cells (tp.keep b5 (by omega))); have hk := fun k e => (hown5.lt k e).1; have gr := Lib.hid (fun (w' : World) (h : w5.grownBy w' (Value.slice a5 (c).length c5).ownBlock) => below_grown h z5' hk); clear row0 hgrow5 e5 hk) | (at_builtin; refine wpList_append_spread _ rfl _ _ 24 rfl wr.heap.size 3 i0 (.int .i64 0) 1 8 Try.underlying24 hi0 hz0 hz1 hz2 rfl (by decide) (.slice a5 (c).length c5) _ (iv c) rfl hown5 _ _ _ (iv path[k]) rfl (iv_length path[k]) CY.out.1 CY.out.2 (iv_one path[k]) (by unfold maxLen; omega) (by omega) (by omega) ?_; rintro v6 w6 ⟨hown6, hgrow6, -⟩))
      rw [← iv_append, ← List.length_append] at hown6
      have e6 := gr.out _ hgrow6
      have b6 := b5.trans e6
      obtain ⟨a6, c6, rfl⟩ := own_slice hown6
      have z6 := b6.size
      have N6 := Nums.own (ts := c ++ path[k]) hown6 (by intro x hx; rcases List.mem_append.1 hx with h | h; exact HFc.out x h; exact HFp.out x h)
      have HN := Lib.hid N6
      clear hown5 hown6 hgrow6 e6 gr CX CY N6
      go_wp2_with fail
      refine (l5mix_any _ _ (c ++ path[k]) w6 HN.out.ints (Nat.le_refl _) (by rw [E8.out.1]; omega) E8.out.2).mono ?_; rintro e w7 ⟨u7, rfl, f7, q7⟩
      have be7 := be.trans ((b6.trans (f7.mono z6)).mono zr)
      have q8 : Nums true w.heap.size w7.heap.size w7 u7 (rootAt leaf path bits (k + 1)) := by rw [HM.out]; exact q7.mono (by omega) (Nat.le_refl _)
      clear tc tp q7 f7 HN
      go_wp2_with fail
      go_roundw
      case rel => exact ⟨k + 1, by omega, by go_num, be7, q8⟩
      case measure => simp [intOf]; omega

set_option maxRecDepth 100000 in
theorem root_spec (o l h lim1 lim2 v0 v1 v2) (leaf : List Int) (path : List (List Int)) (bits : List Int) (w : World) (t0 : Ints lim1 w v0 leaf) (t1 : IntSS o l h w v1 path) (t2 : Ints lim2 w v2 bits) (hw : h ≤ w.heap.size) (hw1 : lim1 ≤ w.heap.size) (hw2 : lim2 ≤ w.heap.size) :
    Calls Try.prog 21 #[v0, v1, v2] w (ResN w (rootL leaf path bits)) := by
  have HC := l5path_any o l h lim1 lim2 v0 v1 v2 leaf path bits w t0 t1 t2 hw
  cases hp : pathB leaf path bits with
  | false =>
    rw [hp] at HC
    have HF := Lib.hid (rootL_no hp)
    have HD := Lib.hid HC
    clear HC hp
    go_enter Try.func21, Try.ntmps21
    go_wp2_with fail
    refine HD.out.mono ?_; rintro e w1 ⟨rfl, rfl⟩
    go_wp2_with fail
    go_ret
    exact ResN.nil HF.out (Below.refl _ _)
  | true =>
    rw [hp] at HC
    have HF := Lib.hid (rootL_yes hp)
    have HR := Lib.hid (l5root_any o l h lim1 lim2 v0 v1 v2 leaf path bits w t0 t1 t2 hw hw1 hw2 hp)
    have HD := Lib.hid HC
    clear HC hp
    go_enter Try.func21, Try.ntmps21
    go_wp2_with fail
    refine HD.out.mono ?_; rintro e w1 ⟨rfl, rfl⟩
    go_wp2_with fail
    refine HR.out.mono ?_; rintro e w2 ⟨u, rfl, f2, q2⟩
    go_wp2_with fail
    go_ret
    exact ⟨u, rfl, f2, by rw [HF.out]; exact q2⟩

set_option maxRecDepth 100000 in
set_option maxHeartbeats 3200000 in
theorem root_impl (o l h lim1 lim2 v0 v1 v2) (leaf : List Int) (path : List (List Int)) (bits : List Int) (w : World) (t0 : Ints lim1 w v0 leaf) (t1 : IntSS o l h w v1 path) (t2 : Ints lim2 w v2 bits) (hw : h ≤ w.heap.size) (hw1 : lim1 ≤ w.heap.size) (hw2 : lim2 ≤ w.heap.size) :
    Calls Try.prog 23 #[v0, v1, v2] w (ResN w (rootL leaf path bits)) := by
  obtain ⟨a0, k0, rfl, l0, b0⟩ := t0.shape
  obtain ⟨a1, k1, rfl, l1, b1⟩ := t1.shape
  obtain ⟨a2, k2, rfl, l2, b2⟩ := t2.shape
  have HC := fourBytes_any lim1 (.slice a0 leaf.length k0) leaf w t0
  cases hf : fourB leaf with
  | false =>
    rw [hf] at HC
    have HF := Lib.hid (rootL_no (headB_no (leaf := leaf) (path := path) (bits := bits) (by unfold headB; rw [hf]; rfl)))
    have HD := Lib.hid HC
    clear hf HC
    go_enter Try.func23, Try.ntmps23
    go_wp2_with fail
    refine HD.out.mono ?_; rintro e w1 ⟨rfl, f1⟩
    go_wp2_with fail
    go_ret
    exact ResN.nil HF.out f1
  | true =>
  rw [hf] at HC
  have HD := Lib.hid HC
  have H4L := Lib.hid (fourB_elim hf)
  have hll : leaf.length = 4 := four_len H4L.out
  clear HC
  by_cases h3 : path.length ≤ 3
  case' neg =>
    have e8 : decide (3 < path.length) = true := decide_eq_true (by omega)
    have HF := Lib.hid (rootL_no (headB_no (leaf := leaf) (path := path) (bits := bits) (by unfold headB; simp [h3])))
    clear hf hll
    go_enter Try.func23, Try.ntmps23
    go_wp2_with fail
    refine HD.out.mono ?_; rintro e w1 ⟨rfl, f1⟩
    go_wp2_with fail
    go_ret
    exact ResN.nil HF.out f1
  have e8 : decide (3 < path.length) = false := decide_eq_false (by omega)
  by_cases hs : bits.length = path.length
  case' neg =>
    have e9 : ((bits.length : Int) != (path.length : Int)) = true := by simp; omega
    have HF := Lib.hid (rootL_no (headB_no (leaf := leaf) (path := path) (bits := bits) (by unfold headB; simp [hs])))
    clear hf hll hs
    go_enter Try.func23, Try.ntmps23
    go_wp2_with fail
    refine HD.out.mono ?_; rintro e w1 ⟨rfl, f1⟩
    go_wp2_with fail
    go_ret
    exact ResN.nil HF.out f1
  have e9 : ((bits.length : Int) != (path.length : Int)) = false := by simp; omega
  have HS := Lib.hid hs
  have HH := Lib.hid (show headB leaf path bits = true by unfold headB; simp [hf, h3, hs])
  have HT0 := Lib.hid t0
  have hl1 : leaf.length ≤ 4194304 := by omega
  have hl2 : 0 < leaf.length := by omega
  clear hs hf hll t0
  go_enter Try.func23, Try.ntmps23
  go_wp2_with fail
  refine HD.out.mono ?_; rintro e w1 ⟨rfl, f1⟩
  have z1 := f1.size
  go_wp2_with fail
  refine (cloneI_any lim1 _ leaf w1 (HT0.out.keep f1 hw1) (by omega) hl1 hl2).mono ?_; rintro e w2 ⟨u, rfl, f2, q2⟩
  have k2' := f1.trans (f2.mono z1)
  have q3 := q2.mono (l' := w.heap.size) (h' := w2.heap.size) z1 (Nat.le_refl _)
  clear q2 f2 f1 e8 e9 HD
  go_wp2_with fail
  go_loopw [7, 29] (fun u i wr => ∃ k : Nat, k ≤ path.length ∧ i = .int .i64 k ∧ Below w.heap.size w wr ∧ Nums true w.heap.size wr.heap.size wr u (rootAt leaf path bits k) ∧ okTo path bits k = true) (fun _ i _ => path.length - (intOf i).toNat)
  case atStart => exact ⟨0, Nat.zero_le _, rfl, k2', q3, rfl⟩
  case round =>
    obtain ⟨k, hk, rfl, be, tc, ho⟩ := hrel
    have HO := Lib.hid ho
    clear k2' q3 z1 ho
    have zr := be.size
    by_cases hlt : k < path.length
    case' neg =>
      obtain rfl : k = path.length := by omega
      have HF := Lib.hid (rootL_yes (pathB_yes HH.out HO.out))
      go_wp2_with fail
      go_ret
      exact ⟨_, rfl, be, by rw [HF.out]; exact tc⟩
    have hlt2 : k < bits.length := by rw [HS.out]; exact hlt
    obtain ⟨c, hc⟩ : ∃ c, c = rootAt leaf path bits k := ⟨_, rfl⟩
    have H4 := Lib.hid (show isFour c by rw [hc]; exact rootAt_four H4L.out HO.out)
    rw [← hc] at tc
    have hcl : c.length ≤ 4 := by rw [four_len H4.out]; omega
    have tc := tc.ints
    obtain ⟨ac, kc, rfl, lc, bc⟩ := tc.shape
    obtain ⟨bb, off, u, rfl, q1, q2, c1, tu⟩ := (t1.keep be hw).at hlt
    obtain ⟨a3, k3, rfl, l3, b3⟩ := tu.shape
    have tp := tu.ints
    have HC := fourBytes_any h _ path[k] wr tp
    obtain ⟨bd, of2, b, rfl, -, c2, eb, fb⟩ := (t2.keep be hw2).at hlt2
    clear tu t1 t2
    cases hf : fourB path[k] with
    | false =>
      rw [hf] at HC
      have HF := Lib.hid (rootL_no (pathB_no (leaf := leaf) (bits := bits) hlt (by rw [okAt_eq hlt eb]; unfold okB; rw [hf]; rfl)))
      have HD := Lib.hid HC
      clear hf HC hc eb
      go_wp2_with fail
      refine HD.out.mono ?_; rintro e w1 ⟨rfl, f1⟩
      go_wp2_with fail
      go_ret
      exact ResN.nil HF.out (be.trans (f1.mono zr))
    | true =>
      rw [hf] at HC
      have HD := Lib.hid HC
      have HP := Lib.hid hf
      have HP4 := Lib.hid (fourB_elim hf)
      have hpl : path[k].length ≤ 4 := by rw [four_len HP4.out]; omega
      clear hf HC
      have HHc := Lib.hid hc
      have HEb := Lib.hid eb
      clear hc eb
      go_wp2_with fail
      refine HD.out.mono ?_; rintro e w1 ⟨rfl, f1⟩
      have z1 := f1.size
      have d2 := ck f1 c2
      clear c1 c2
      have hc := HHc.out
      have eb := HEb.out
      by_cases g0 : b = 0
      case' pos =>
        subst g0
        have HM := Lib.hid (show rootAt leaf path bits (k + 1) = mixM (c ++ path[k]) by have := rootAt_step (leaf := leaf) hlt eb; rw [upL_other (by omega), ← hc] at this; exact this)
        have HO2 := Lib.hid (okTo_step HO.out (show okAt path bits k = true by rw [okAt_eq hlt eb]; unfold okB; simp [HP.out]))
        have E8 := Lib.hid (eight (x := c) (y := path[k]) H4.out HP4.out)
        clear eb hc
        go_wp2_with fail
        refine name_call fun w2 hw2 => ?_
        have f2 : Below w1.heap.size w1 w2 := by rw [hw2]; (repeat (with_reducible first | exact bR _ _ | assumption | refine bD ?_ | refine bN ?_ _ | refine bA ?_ _ | refine bS ?_ _))
        have z2 : w1.heap.size + 1 ≤ w2.heap.size := by rw [hw2]; simp
        have x0 : w2.cell? ⟨w1.heap.size, 0, none⟩ = some (Value.slice ac c.length kc) := by rw [hw2]; first | (simp; done) | go_simp
        have x1 : w2.cell? ⟨w1.heap.size, 1, none⟩ = some (Value.slice a3 path[k].length k3) := by rw [hw2]; first | (simp; done) | go_simp
        clear hw2
        have tc1 := (tc.keep f1 (by omega)).keep f2 (by omega)
        have tp1 := (tp.keep f1 (by omega)).keep f2 (by omega)
        refine (concat_any w2.heap.size w1.heap.size _ _ (c) path[k] w2 ⟨x0, x1, tc1.mono (by omega), tp1.mono (by omega)⟩ (Nat.le_refl _) (by omega) (by omega)).mono ?_; rintro e w3 ⟨u3, rfl, f3, q3⟩
        have z3 := f3.size
        have HN := Lib.hid q3.ints
        clear x0 x1 tc1 tp1 tc tp q3
        go_wp2_with fail
        refine (mix_impl _ _ (c ++ path[k]) w3 HN.out (Nat.le_refl _) (by rw [E8.out.1]; omega)).mono ?_; rintro e w4 ⟨u4, rfl, f4, q4⟩
        have be4 := be.trans ((((f1.trans (f2.mono z1)).trans (f3.mono (by omega))).trans (f4.mono (by omega))).mono zr)
        rw [mixL_yes (by rw [E8.out.1]; omega) E8.out.2, ← HM.out] at q4
        have q5 : Nums true w.heap.size w4.heap.size w4 u4 (rootAt leaf path bits (k + 1)) := q4.mono (by omega) (Nat.le_refl _)
        clear q4 f4 HN
        go_wp2_with fail
        go_roundw
        case rel => exact ⟨k + 1, by omega, by go_num, be4, q5, HO2.out⟩
        case measure => simp [intOf]; omega
      by_cases g1 : b = 1
      case' pos =>
        subst g1
        have HM := Lib.hid (show rootAt leaf path bits (k + 1) = mixM (path[k] ++ c) by have := rootAt_step (leaf := leaf) hlt eb; rw [upL_one, ← hc] at this; exact this)
        have HO2 := Lib.hid (okTo_step HO.out (show okAt path bits k = true by rw [okAt_eq hlt eb]; unfold okB; simp [HP.out]))
        have e0 : ((1 : Int) == 0) = false := rfl
        have E8 := Lib.hid (eight (x := path[k]) (y := c) HP4.out H4.out)
        clear eb hc
        go_wp2_with fail
        refine name_call fun w2 hw2 => ?_
        have f2 : Below w1.heap.size w1 w2 := by rw [hw2]; (repeat (with_reducible first | exact bR _ _ | assumption | refine bD ?_ | refine bN ?_ _ | refine bA ?_ _ | refine bS ?_ _))
        have z2 : w1.heap.size + 1 ≤ w2.heap.size := by rw [hw2]; simp
        have x0 : w2.cell? ⟨w1.heap.size, 0, none⟩ = some (Value.slice a3 path[k].length k3) := by rw [hw2]; first | (simp; done) | go_simp
        have x1 : w2.cell? ⟨w1.heap.size, 1, none⟩ = some (Value.slice ac c.length kc) := by rw [hw2]; first | (simp; done) | go_simp
        clear hw2
        have tc1 := (tc.keep f1 (by omega)).keep f2 (by omega)
        have tp1 := (tp.keep f1 (by omega)).keep f2 (by omega)
        refine (concat_any w2.heap.size w1.heap.size _ _ path[k] c w2 ⟨x0, x1, tp1.mono (by omega), tc1.mono (by omega)⟩ (Nat.le_refl _) (by omega) (by omega)).mono ?_; rintro e w3 ⟨u3, rfl, f3, q3⟩
        have z3 := f3.size
        have HN := Lib.hid q3.ints
        clear x0 x1 tc1 tp1 tc tp q3
        go_wp2_with fail
        refine (mix_impl _ _ (path[k] ++ c) w3 HN.out (Nat.le_refl _) (by rw [E8.out.1]; omega)).mono ?_; rintro e w4 ⟨u4, rfl, f4, q4⟩
        have be4 := be.trans ((((f1.trans (f2.mono z1)).trans (f3.mono (by omega))).trans (f4.mono (by omega))).mono zr)
        rw [mixL_yes (by rw [E8.out.1]; omega) E8.out.2, ← HM.out] at q4
        have q5 : Nums true w.heap.size w4.heap.size w4 u4 (rootAt leaf path bits (k + 1)) := q4.mono (by omega) (Nat.le_refl _)
        clear q4 f4 HN
        go_wp2_with fail
        go_roundw
        case rel => exact ⟨k + 1, by omega, by go_num, be4, q5, HO2.out⟩
        case measure => simp [intOf]; omega
      have h0 : (b == 0) = false := by simp [g0]
      have h1 : (b == 1) = false := by simp [g1]
      have HF := Lib.hid (rootL_no (pathB_no (leaf := leaf) (bits := bits) hlt (by rw [okAt_eq hlt eb]; unfold okB; simp; intro _ _; omega)))
      clear hc eb g0 g1
      go_wp2_with fail
      go_ret
      exact ResN.nil HF.out (be.trans (f1.mono zr))
end Go.Proofs.Ytldeckiflghpcaa.L
