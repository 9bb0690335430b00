/- What solves a system: the model's l3solve and Solve. -/
import Derived.Test.YtghjcedhoeoiiaaSolveT
import Derived.Test.YtghjcedhoeoiiaaB5
import Derived.Test.YtghjcedhoeoiiaaB3
import Derived.Test.YtghjcedhoeoiiaaNums2
namespace Go.Proofs.Ytghjcedhoeoiiaa.L
open Go.RowKit Go.Proofs.Ytghjcedhoeoiiaa.S
set_option linter.unusedVariables false
set_option linter.unusedSimpArgs false

theorem hintsB_at : ∀ (hs : List HintC) (n : Int) (k : Nat) (hk : k < hs.length), hintsB n hs = true → hintW (n + k) hs[k] = true := by
  intro hs
  induction hs with
  | nil => intro n k hk; simp at hk
  | cons h r ih =>
    intro n k hk hb
    rw [hintsB, Bool.and_eq_true] at hb
    cases k with
    | zero => simpa using hb.1
    | succ k =>
      have := ih (n + 1) k (by simpa using hk) hb.2
      rw [show n + 1 + (k : Int) = n + ((k + 1 : Nat) : Int) from by omega] at this
      simpa using this
theorem sysOk_hint_at {s : SysC} (h : sysOk s = true) {k : Nat} (hk : k < s.hints.length) : hintW (1 + s.ins + k) s.hints[k] = true := by
  unfold sysOk at h
  rw [Bool.and_eq_true, Bool.and_eq_true] at h
  exact hintsB_at _ _ k hk h.2.1
def iv2 (xs : List Int) : List Value := xs.map (Value.int .i64)
theorem iv2_len (xs : List Int) : (iv2 xs).length = xs.length * 1 := by simp [iv2]
theorem iv2_one (xs : List Int) : ∀ u ∈ iv2 xs, u.oneCell' = true := by
  intro u hu
  obtain ⟨x, _, rfl⟩ := List.mem_map.1 hu
  rfl
theorem ints_cells2 {lim : Nat} {w : World} {a : Option Addr} {n cap : Nat} {ys : List Int} (t : Ints lim w (.slice a n cap) ys) :
    (a = none → n = 0) ∧ ∀ ad, a = some ad → ∀ j u, (iv2 ys)[j]? = some u → w.cell? (ad.add j) = some u := by
  obtain ⟨a', cap', e, h1, h2, h3, h4⟩ := t
  simp only [Value.slice.injEq] at e
  obtain ⟨rfl, rfl, rfl⟩ := e
  rcases h4 with h4 | ⟨b, off, rfl, hlt, hc⟩
  · subst h4
    exact ⟨fun _ => rfl, fun ad _ j u hj => by simp [iv2] at hj⟩
  · refine ⟨(fun q => by cases q), fun ad q j u hj => ?_⟩
    simp only [Option.some.injEq] at q
    subst q
    rw [Go.WideShapes.add_plain]
    unfold iv2 at hj
    rw [List.getElem?_map] at hj
    cases hx : ys[j]? with
    | none => rw [hx] at hj; simp at hj
    | some x => rw [hx] at hj; simp at hj; subst hj; exact hc j x hx
theorem asg_fit2 {xs : List Int} (h : isAsg xs = true) : ∀ x ∈ xs, Fits x := fun x hx => by
  have := (of_decide_eq_true h).2.2.2 x hx
  unfold fl at this; unfold Fits; omega

set_option maxRecDepth 100000 in
set_option maxHeartbeats 6400000 in
theorem l3solve_any (o l h vi vo vh vc) (s : SysC) (lim : Nat) (v : Value) (xs : List Int) (w : World) (t : SysR o l h w vi vo vh vc s) (hw : h ≤ w.heap.size) (ti : Ints lim w v xs) (hl : lim ≤ w.heap.size) (ok : sysOk s = true) (hn : (xs.length : Int) = s.ins) (hf : ∀ x ∈ xs, fl x) :
    Calls Try.prog 44 #[.agg #[vi, vo, vh, vc], v] w fun e w' => ∃ u, e = .returned u ∧ Below w.heap.size w w' ∧ Nums true w.heap.size w'.heap.size w' u (solveL s xs) := by
  obtain ⟨tO, tH, tC⟩ := t.parts
  obtain ⟨ao, ko, ah, kh, ac, kc, rfl, rfl, rfl, rfl, lo, bo, lh, bh, lc, bc, fi⟩ := t.shape
  obtain ⟨ai, ki, rfl, lai, bai⟩ := ti.shape
  obtain ⟨i0, hi0, hz0, hz1, hz2⟩ := info_parts intInfo
  obtain ⟨s0, s1, s2, s3, s4⟩ := limB_facts (sysOk_limB ok)
  have hx100 : xs.length ≤ 100 := by omega
  have hh3 : s.hints.length ≤ 3000 := by omega
  have HN := Lib.hid hn
  have OK := Lib.hid ok
  have A0 := Lib.hid (asg_start hf (by omega))
  have AK := Lib.hid fun (k : Nat) (hk : k ≤ s.hints.length) => show isAsg (solveF (1 :: xs) (s.hints.take k)) = true from solveF_asg _ _ A0.out (by rw [List.length_take]; simp; have := HN.out; omega)
  have LK := Lib.hid fun (k : Nat) (hk : k ≤ s.hints.length) => show (solveF (1 :: xs) (s.hints.take k)).length = xs.length + 1 + k from by rw [solveF_len, List.length_take, Nat.min_eq_left hk]; simp
  clear hn ok
  go_enter Try.func44, Try.ntmps44
  go_wp2_with (at_builtin; refine name_list ?_)
  intro W hW
  have b1 : Below w.heap.size w W := by rw [hW]; (repeat (with_reducible first | exact bR _ _ | assumption | refine bD ?_ | refine bN ?_ _ | refine bA ?_ _ | refine bS ?_ _))
  have z1 : w.heap.size + 2 ≤ W.heap.size := by rw [hW]; simp
  have cI : W.cell? ⟨w.heap.size, 0, none⟩ = some (.int .i64 s.ins) := by rw [hW]; first | (simp; done) | go_simp
  have cO : W.cell? ⟨w.heap.size, 1, none⟩ = some (.slice ao s.outs.length ko) := by rw [hW]; first | (simp; done) | go_simp
  have cH : W.cell? ⟨w.heap.size, 2, none⟩ = some (.slice ah s.hints.length kh) := by rw [hW]; first | (simp; done) | go_simp
  have cC : W.cell? ⟨w.heap.size, 3, none⟩ = some (.slice ac s.cons.length kc) := by rw [hW]; first | (simp; done) | go_simp
  have C := Lib.hid (ints_cells2 (ti.keep b1 hl))
  have row0 : W.ownsRow (w.heap.size + 1) 3 1 (.slice (some ⟨w.heap.size + 1, 0, none⟩) 1 1) 1 [.int .i64 1] := by
    rw [hW]
    have q := World.ownsRow_lit (base := w.heap.size + 1) (size := 1) (e := 3) (w.alloc (.cells #[.int .i64 s.ins, .slice ao s.outs.length ko, .slice ah s.hints.length kh, .slice ac s.cons.length kc] 31)) #[.int .i64 1] 1 (by simp) (by unfold maxLen; omega) rfl
    simpa using q
  have z1' : w.heap.size + 1 ≤ W.heap.size := by omega
  have A1 : 1 + xs.length ≤ maxLen := by unfold maxLen; omega
  have A2 : (1 + xs.length) * 8 ≤ 140737488355328 := by omega
  clear hW
  go_wp2_with (at_builtin; refine wpList_append_spread _ rfl _ _ 26 rfl (w.heap.size + 1) 3 i0 (.int .i64 0) 1 8 Try.underlying26 hi0 hz0 hz1 hz2 rfl (by decide) (.slice (some ⟨w.heap.size + 1, 0, none⟩) 1 1) 1 [.int .i64 1] rfl row0 _ _ _ (iv2 xs) rfl (iv2_len xs) C.out.1 C.out.2 (iv2_one xs) A1 A2 z1' ?_; rintro v' w5 ⟨hown, hgrow, -⟩; obtain ⟨a', cap', rfl⟩ := own_slice hown; have e5 : Below (w.heap.size + 1) W w5 := below_grown (row := some (w.heap.size + 1)) hgrow z1' (fun k e => by simp at e; omega))
  have b5 : Below w.heap.size w w5 := b1.trans (e5.mono (by omega))
  have z5 : w.heap.size + 1 ≤ w5.heap.size := Nat.le_trans z1' e5.size
  have kI := (e5.cell (p := ⟨w.heap.size, 0, none⟩) (Nat.lt_succ_self _)).trans cI
  have kO := (e5.cell (p := ⟨w.heap.size, 1, none⟩) (Nat.lt_succ_self _)).trans cO
  have kH := (e5.cell (p := ⟨w.heap.size, 2, none⟩) (Nat.lt_succ_self _)).trans cH
  have kC := (e5.cell (p := ⟨w.heap.size, 3, none⟩) (Nat.lt_succ_self _)).trans cC
  have hown0 : w5.ownsRow (w.heap.size + 1) 3 1 (.slice a' (1 + xs.length) cap') (solveF (1 :: xs) (s.hints.take 0)).length ((solveF (1 :: xs) (s.hints.take 0)).map (Value.int .i64)) := by
    have h := hown
    rw [show (solveF (1 :: xs) (s.hints.take 0)).length = 1 + xs.length from by rw [show solveF (1 :: xs) (s.hints.take 0) = 1 :: xs from rfl, List.length_cons]; omega]
    exact h
  clear hown hgrow row0 C e5 cI cO cH cC b1
  go_wp2_with fail
  go_loopw [5, 6] (fun v i wr => ∃ k : Nat, k ≤ s.hints.length ∧ i = .int .i64 k ∧ Below w.heap.size w wr ∧ w.heap.size + 1 ≤ wr.heap.size ∧ wr.cell? ⟨w.heap.size, 0, none⟩ = some (.int .i64 s.ins) ∧ wr.cell? ⟨w.heap.size, 1, none⟩ = some (.slice ao s.outs.length ko) ∧ wr.cell? ⟨w.heap.size, 2, none⟩ = some (.slice ah s.hints.length kh) ∧ wr.cell? ⟨w.heap.size, 3, none⟩ = some (.slice ac s.cons.length kc) ∧ wr.ownsRow (w.heap.size + 1) 3 1 v (solveF (1 :: xs) (s.hints.take k)).length ((solveF (1 :: xs) (s.hints.take k)).map (Value.int .i64))) (fun _ i _ => s.hints.length - (intOf i).toNat)
  case atStart => exact ⟨0, Nat.zero_le _, rfl, b5, z5, kI, kO, kH, kC, hown0⟩
  case round =>
    clear kI kO kH kC hown0
    obtain ⟨k, hk, rfl, be, zz, cI, cO, cH, cC, hrow⟩ := hrel
    by_cases hlt : k < s.hints.length
    · obtain ⟨b, off, va, vb, rfl, l1, m1, c0, c1, c2, c3, f0, f3, ta, tb⟩ := (tH.keep be hw).at hlt
      obtain ⟨x, kx, rfl, lx, bx⟩ := ta.shape
      obtain ⟨y, ky, rfl, ly, by'⟩ := tb.shape
      have hLk := LK.out k hk
      have ASG := Lib.hid (AK.out k hk)
      have HW : Hid (hintW (solveF (1 :: xs) (s.hints.take k)).length s.hints[k] = true) := Lib.hid (by
        have q := sysOk_hint_at OK.out hlt
        have hn := HN.out
        rw [show ((solveF (1 :: xs) (s.hints.take k)).length : Int) = 1 + s.ins + (k : Int) from by rw [hLk]; omega]
        exact q)
      have HT : Hid ((solveF (1 :: xs) (s.hints.take (k + 1))).map (Value.int .i64) = (solveF (1 :: xs) (s.hints.take k)).map (Value.int .i64) ++ [.int .i64 (toldV (solveF (1 :: xs) (s.hints.take k)) s.hints[k])]) := Lib.hid (by rw [solveF_take hlt, List.map_append]; rfl)
      have HTL : Hid ((solveF (1 :: xs) (s.hints.take (k + 1))).length = (solveF (1 :: xs) (s.hints.take k)).length + 1) := Lib.hid (by rw [solveF_take hlt, List.length_append]; rfl)
      have hfit := asg_fit2 ASG.out
      have hL : (solveF (1 :: xs) (s.hints.take k)).length ≤ 3200 := by omega
      have TN := Nums.own hrow hfit
      have bl : b < wr.heap.size := World.block_lt_of_cell? _ _ c0
      have lcI : w.heap.size < wr.heap.size := World.block_lt_of_cell? _ _ cI
      obtain ⟨ra, rc, rfl⟩ := own_slice hrow
      clear hLk hfit
      generalize solveF (1 :: xs) (s.hints.take k) = L at *
      go_wp2_with fail
      refine name_call fun w1 hw1 => ?_
      have e1 : Below wr.heap.size wr w1 := by rw [hw1]; (repeat (with_reducible first | exact bR _ _ | assumption | refine bD ?_ | refine bN ?_ _ | refine bA ?_ _ | refine bS ?_ _))
      have cI1 := cell_keep e1 cI
      have cO1 := cell_keep e1 cO
      have cH1 := cell_keep e1 cH
      have cC1 := cell_keep e1 cC
      have tA1 := ta.keep e1 (by omega)
      have tB1 := tb.keep e1 (by omega)
      have TN1 := TN.keep e1 (Nat.le_refl _)
      have hrow1 := row_keep hrow e1
      have z1 := e1.size
      have b1 := be.trans (e1.mono (by omega))
      clear hw1 cI cO cH cC ta tb TN hrow
      refine (told_spec o l h _ _ s.hints[k] wr.heap.size _ L w1 tA1 tB1 (by omega) TN1.ints z1 ASG.out _ (Lib.hid rfl) HW.out).mono ?_; rintro e w2 ⟨rfl, f2⟩
      have z2 := f2.size
      have b2 := b1.trans (f2.mono (by omega))
      have cI2 := cell_keep f2 cI1
      have cO2 := cell_keep f2 cO1
      have cH2 := cell_keep f2 cH1
      have cC2 := cell_keep f2 cC1
      have hrow2 := row_keep hrow1 f2
      have lw : w.heap.size < w2.heap.size := World.block_lt_of_cell? _ _ cI2
      clear cI1 cO1 cH1 cC1 tA1 tB1 TN1 hrow1
      generalize toldV L s.hints[k] = y' at *
      have B1 : L.length + 1 ≤ maxLen := by unfold maxLen; omega
      have B2 : (L.length + 1) * 8 ≤ 140737488355328 := by omega
      have B3 : w.heap.size + 1 ≤ w2.heap.size := by omega
      go_wp2_with (at_builtin; refine wpList_append_own _ rfl _ _ 26 rfl (w.heap.size + 1) 3 i0 (.int .i64 0) 1 8 Try.underlying26 hi0 hz0 hz1 hz2 rfl (by decide) _ _ _ rfl (hrow2.alloc _) ⟨w2.heap.size, 0, none⟩ 1 1 [.int .i64 y'] rfl rfl (cell_one_new' _ _ _) (by simp [Value.oneCell']) B1 B2 (Nat.le_trans B3 (by simp)) ?_; intro v' w5 hown' hgrow _)
      have eB : Below (w.heap.size + 1) (w2.alloc (.cells #[.int .i64 y'] 3)) w5 := (Below.refl _ _).grown hgrow (Nat.le_trans B3 (by simp)) (fun j ej => (hrow2.lt j ej).1)
      have be5 : Below w.heap.size w w5 := (b2.alloc (by omega) (.cells #[.int .i64 y'] 3)).trans (eB.mono (by omega))
      have z5 := hgrow.size
      simp only [World.size_alloc] at z5
      have kI := (eB.cell (p := ⟨w.heap.size, 0, none⟩) (Nat.lt_succ_self _)).trans (alloc_keep cI2)
      have kO := (eB.cell (p := ⟨w.heap.size, 1, none⟩) (Nat.lt_succ_self _)).trans (alloc_keep cO2)
      have kH := (eB.cell (p := ⟨w.heap.size, 2, none⟩) (Nat.lt_succ_self _)).trans (alloc_keep cH2)
      have kC := (eB.cell (p := ⟨w.heap.size, 3, none⟩) (Nat.lt_succ_self _)).trans (alloc_keep cC2)
      clear cI2 cO2 cH2 cC2 hrow2
      go_roundw
      case rel => exact ⟨k + 1, by omega, by go_num, be5, by omega, kI, kO, kH, kC, by rw [HT.out, HTL.out]; exact hown'⟩
      case measure => simp [intOf]; omega
    · obtain rfl : k = s.hints.length := by omega
      have AS := AK.out _ (Nat.le_refl _)
      rw [List.take_length] at hrow AS
      have ht := (Nums.own (ts := solveL s xs) hrow (asg_fit2 AS)).mono (l' := w.heap.size) (h' := wr.heap.size) (by omega) (Nat.le_refl _)
      have HT := Lib.hid ht
      obtain ⟨ra, rc, rfl⟩ := own_slice hrow
      clear hrow ht
      go_wp2_with fail
      go_ret
      exact ⟨_, rfl, be, HT.out⟩
end Go.Proofs.Ytghjcedhoeoiiaa.L
