/- Copies of slices of hints and constraints, and of systems. -/
import Derived.Test.YtaohghgdjnkgdaaCopyT
namespace Go.Proofs.Ytaohghgdjnkgdaa.L
open Go.RowKit Go.Proofs.Ytaohghgdjnkgdaa.S
set_option linter.unusedVariables false
set_option linter.unusedSimpArgs false

theorem HintInfo : (Try.prog.info? 85).map (fun i => (i.zero, i.size, i.bytes)) = some (some (.agg #[.int .i64 0, .slice none 0 0, .slice none 0 0, .int .i64 0]), 4, 64) := by kernel_rfl
theorem HintS.made {w : World} {base n : Nat} {v : Value} (hr : w.ownsRow base 85 4 v n (madeCells #[.int .i64 0, .slice none 0 0, .slice none 0 0, .int .i64 0] (n * 4)).toList) (hb : base ≤ w.heap.size) : HintS true base w.heap.size w v (List.replicate n ⟨0, [], [], 0⟩) :=
  Shape.row_made (E := hintSh) (zs := [.int .i64 0, .slice none 0 0, .slice none 0 0, .int .i64 0]) (d := (⟨0, [], [], 0⟩ : HintC)) rfl (fun l h w => ⟨_, _, l, min l h, l, min l h, rfl, by unfold Fits; simp, by unfold Fits; simp, Nat.le_refl _, Nat.min_le_right _ _, Nat.le_refl _, Nat.min_le_right _ _, fun _ => .inl (Nat.min_le_left _ _), Terms.nil _ _ _ _, Terms.nil _ _ _ _⟩) hr hb
set_option maxHeartbeats 1600000 in
theorem HintS.fill {l h : Nat} {w : World} {b n cap : Nat} {xs : List HintC} (t : HintS true l h w (.slice (some ⟨b, 0, none⟩) n cap) xs) {j : Nat} (hj : j < xs.length) (hh : h ≤ w.heap.size) :
    (∃ c0 c1 c2 c3, w.cell? ⟨b, j * 4, none⟩ = some c0 ∧ w.cell? ⟨b, j * 4 + 1, none⟩ = some c1 ∧ w.cell? ⟨b, j * 4 + 2, none⟩ = some c2 ∧ w.cell? ⟨b, j * 4 + 3, none⟩ = some c3) ∧ (∀ i, w.frozen? ⟨b, i, none⟩ = false) ∧ ∀ (x : HintC) ua ub L' M1 h', Fits x.kind → Fits x.k → Terms true L' M1 w ua x.a → Terms true M1 h' w ub x.b → h ≤ L' → L' ≤ M1 → M1 ≤ h' → h ≤ h' → h' ≤ w.heap.size →
      HintS true l h' ((((w.setCell ⟨b, j * 4, none⟩ (.int .i64 x.kind)).setCell ⟨b, j * 4 + 1, none⟩ ua).setCell ⟨b, j * 4 + 2, none⟩ ub).setCell ⟨b, j * 4 + 3, none⟩ (.int .i64 x.k)) (.slice (some ⟨b, 0, none⟩) n cap) (xs.set j x) := by
  obtain ⟨hb, ⟨cs, hl, hc⟩, hf, hu⟩ := Shape.row_fill (E := hintSh) t hj hh
  match cs, hl with
  | [c0, c1, c2, c3], _ =>
    have k0 : w.cell? ⟨b, j * 4, none⟩ = some c0 := hc 0 c0 rfl
    have k1 : w.cell? ⟨b, j * 4 + 1, none⟩ = some c1 := hc 1 c1 rfl
    have k2 : w.cell? ⟨b, j * 4 + 2, none⟩ = some c2 := hc 2 c2 rfl
    have k3 : w.cell? ⟨b, j * 4 + 3, none⟩ = some c3 := hc 3 c3 rfl
    refine ⟨⟨c0, c1, c2, c3, k0, k1, k2, k3⟩, hf, fun x ua ub L' M1 h' fkind fk ta tb hL g0 g1 hhh hhs => ?_⟩
    have hs : Same L' h' w ((((w.setCell ⟨b, j * 4, none⟩ (.int .i64 x.kind)).setCell ⟨b, j * 4 + 1, none⟩ ua).setCell ⟨b, j * 4 + 2, none⟩ ub).setCell ⟨b, j * 4 + 3, none⟩ (.int .i64 x.k)) := Same.set (Same.set (Same.set (Same.set (Same.refl _ _ _) (by omega)) (by omega)) (by omega)) (by omega)
    have m0 : ((((w.setCell ⟨b, j * 4, none⟩ (.int .i64 x.kind)).setCell ⟨b, j * 4 + 1, none⟩ ua).setCell ⟨b, j * 4 + 2, none⟩ ub).setCell ⟨b, j * 4 + 3, none⟩ (.int .i64 x.k)).cell? ⟨b, j * 4, none⟩ = some (.int .i64 x.kind) := ((World.cell?_setCell_other _ _ _ _ (by simp <;> omega)).trans ((World.cell?_setCell_other _ _ _ _ (by simp <;> omega)).trans ((World.cell?_setCell_other _ _ _ _ (by simp <;> omega)).trans (World.cell?_setCell_same _ _ (.int .i64 x.kind) k0))))
    have m1 : ((((w.setCell ⟨b, j * 4, none⟩ (.int .i64 x.kind)).setCell ⟨b, j * 4 + 1, none⟩ ua).setCell ⟨b, j * 4 + 2, none⟩ ub).setCell ⟨b, j * 4 + 3, none⟩ (.int .i64 x.k)).cell? ⟨b, j * 4 + 1, none⟩ = some ua := ((World.cell?_setCell_other _ _ _ _ (by simp <;> omega)).trans ((World.cell?_setCell_other _ _ _ _ (by simp <;> omega)).trans (World.cell?_setCell_same _ _ ua ((World.cell?_setCell_other _ _ _ _ (by simp <;> omega)).trans k1))))
    have m2 : ((((w.setCell ⟨b, j * 4, none⟩ (.int .i64 x.kind)).setCell ⟨b, j * 4 + 1, none⟩ ua).setCell ⟨b, j * 4 + 2, none⟩ ub).setCell ⟨b, j * 4 + 3, none⟩ (.int .i64 x.k)).cell? ⟨b, j * 4 + 2, none⟩ = some ub := ((World.cell?_setCell_other _ _ _ _ (by simp <;> omega)).trans (World.cell?_setCell_same _ _ ub ((World.cell?_setCell_other _ _ _ _ (by simp <;> omega)).trans ((World.cell?_setCell_other _ _ _ _ (by simp <;> omega)).trans k2))))
    have m3 : ((((w.setCell ⟨b, j * 4, none⟩ (.int .i64 x.kind)).setCell ⟨b, j * 4 + 1, none⟩ ua).setCell ⟨b, j * 4 + 2, none⟩ ub).setCell ⟨b, j * 4 + 3, none⟩ (.int .i64 x.k)).cell? ⟨b, j * 4 + 3, none⟩ = some (.int .i64 x.k) := (World.cell?_setCell_same _ _ (.int .i64 x.k) ((World.cell?_setCell_other _ _ _ _ (by simp <;> omega)).trans ((World.cell?_setCell_other _ _ _ _ (by simp <;> omega)).trans ((World.cell?_setCell_other _ _ _ _ (by simp <;> omega)).trans k3))))
    refine hu _ [.int .i64 x.kind, ua, ub, .int .i64 x.k] x L' h' (show Shape.Chg b (j * 4) 4 L' L' w _ from ((((Shape.Chg.refl _ _ _ _ _ _).setCell (i := j * 4) (by omega) (by omega) (.int .i64 x.kind)).setCell (i := j * 4 + 1) (by omega) (by omega) ua).setCell (i := j * 4 + 2) (by omega) (by omega) ub).setCell (i := j * 4 + 3) (by omega) (by omega) (.int .i64 x.k)) (fun f c hx => ?_) ⟨ua, ub, L', M1, M1, h', rfl, fkind, fk, Nat.le_refl _, by omega, by omega, Nat.le_refl _, fun _ => .inl (Nat.le_refl _), ta, tb⟩ hs hL hhh
    match f, hx with
    | 0, hx => simp only [List.getElem?_cons_succ, List.getElem?_cons_zero, Option.some.injEq] at hx; subst hx; exact m0
    | 1, hx => simp only [List.getElem?_cons_succ, List.getElem?_cons_zero, Option.some.injEq] at hx; subst hx; exact m1
    | 2, hx => simp only [List.getElem?_cons_succ, List.getElem?_cons_zero, Option.some.injEq] at hx; subst hx; exact m2
    | 3, hx => simp only [List.getElem?_cons_succ, List.getElem?_cons_zero, Option.some.injEq] at hx; subst hx; exact m3

set_option maxRecDepth 100000 in
set_option maxHeartbeats 3200000 in
theorem toHintS_any (o l h v) (xs : List HintC) (w : World) (t : HintS o l h w v xs) (hw : h ≤ w.heap.size) (hlen : xs.length ≤ 1048576) (hel : ∀ x ∈ xs, x.a.length ≤ 1048576 ∧ x.b.length ≤ 1048576) :
    Calls Try.prog 64 #[v] w fun e w' => ∃ u, e = .returned u ∧ Below w.heap.size w w' ∧ HintS true w.heap.size w'.heap.size w' u xs := by
  obtain ⟨a, ca, rfl, la, ba⟩ := t.shape
  obtain ⟨i0, hi, hz0, hz1, hz2⟩ := info_parts HintInfo
  have HE := Lib.hid hel
  clear hel
  go_enter Try.func64, Try.ntmps64
  go_wp2_with (refine wpList_make_full _ rfl _ _ 30 rfl w.heap.size 85 i0 (.agg #[.int .i64 0, .slice none 0 0, .slice none 0 0, .int .i64 0]) 4 Try.underlying30 hi hz0 hz1 .i64 .i64 _ _ xs.length rfl rfl rfl rfl (by rw [hz2]; omega) (by unfold maxLen; omega) (Nat.le_refl _) ?_; intro w1 hown hgr)
  have be1 : Below w.heap.size w w1 := (Below.refl _ _).grown hgr (Nat.le_refl _) (fun k e => by simp at e)
  have m1 := HintS.made hown be1.size
  rw [← cp_zero] at m1
  clear hown hgr hi hz0 hz1 hz2
  go_loopw [4] (fun i wr => ∃ k : Nat, k ≤ xs.length ∧ i = .int .i64 k ∧ Below w.heap.size w wr ∧ HintS true w.heap.size wr.heap.size wr (Value.slice (some ⟨w.heap.size, 0, none⟩) xs.length xs.length) (cp ⟨0, [], [], 0⟩ xs k)) (fun i _ => xs.length - (intOf i).toNat)
  case atStart => exact ⟨0, Nat.zero_le _, rfl, be1, m1⟩
  case round =>
    obtain ⟨k, hk, rfl, be, hm⟩ := hrel
    clear be1 m1
    have zb := be.size
    by_cases hlt : k < xs.length
    · obtain ⟨b, off, va, vb, rfl, l1, m1, c0, c1, c2, c3, fkind, fk, ta, tb⟩ := (t.keep be hw).at hlt
      obtain ⟨xa, kxa, rfl, lxa, bxa⟩ := ta.shape
      obtain ⟨xb, kxb, rfl, lxb, bxb⟩ := tb.shape
      obtain ⟨na, nb⟩ := HE.out _ (List.getElem_mem hlt)
      go_wp2_with fail
      refine (toHint_any o l h _ _ xs[k] _ ta tb (by omega) na nb).mono ?_; rintro e w2 ⟨ua, ub, M1, rfl, f2, g0, g1, ra, rb⟩
      obtain ⟨ya, kya, rfl, lya, bya⟩ := ra.shape
      obtain ⟨yb, kyb, rfl, lyb, byb⟩ := rb.shape
      have be2 := be.trans (f2.mono be.size)
      have z2 := f2.size
      have hm2 := hm.keep f2 (Nat.le_refl _)
      have hcl := cp_length ⟨0, [], [], 0⟩ xs k hk
      obtain ⟨⟨z0', z1', z2', z3', cw0, cw1, cw2, cw3⟩, fw, st⟩ := hm2.fill (j := k) (by omega) z2
      have st2 := st xs[k] _ _ _ _ _ fkind fk ra rb (Nat.le_refl _) g0 g1 z2 (Nat.le_refl _)
      rw [cp_set ⟨0, [], [], 0⟩ xs k hlt] at st2
      have be4 := (((be2.setCell (p := ⟨w.heap.size, k * 4, none⟩) (Nat.le_refl _) (.int .i64 xs[k].kind)).setCell (p := ⟨w.heap.size, k * 4 + 1, none⟩) (Nat.le_refl _) (.slice ya xs[k].a.length kya)).setCell (p := ⟨w.heap.size, k * 4 + 2, none⟩) (Nat.le_refl _) (.slice yb xs[k].b.length kyb)).setCell (p := ⟨w.heap.size, k * 4 + 3, none⟩) (Nat.le_refl _) (.int .i64 xs[k].k)
      clear hm hm2 st ra rb be be2 hcl na nb
      have lg : w.heap.size < w2.heap.size := World.block_lt_of_cell? w2 _ cw0
      go_wp2_with fail
      go_roundw
      case rel => exact ⟨k + 1, by omega, by go_num, be4, by simpa [World.setCell] using st2⟩
      case measure => simp [intOf]; omega
    · obtain rfl : k = xs.length := by omega
      rw [cp_end] at hm
      go_wp2_with fail
      go_ret
      exact ⟨_, rfl, be, hm⟩

theorem ConInfo : (Try.prog.info? 53).map (fun i => (i.zero, i.size, i.bytes)) = some (some (.agg #[.slice none 0 0, .slice none 0 0, .slice none 0 0]), 3, 72) := by kernel_rfl
theorem ConS.made {w : World} {base n : Nat} {v : Value} (hr : w.ownsRow base 53 3 v n (madeCells #[.slice none 0 0, .slice none 0 0, .slice none 0 0] (n * 3)).toList) (hb : base ≤ w.heap.size) : ConS true base w.heap.size w v (List.replicate n ⟨[], [], []⟩) :=
  Shape.row_made (E := conSh) (zs := [.slice none 0 0, .slice none 0 0, .slice none 0 0]) (d := (⟨[], [], []⟩ : ConC)) rfl (fun l h w => ⟨_, _, _, l, min l h, l, min l h, l, min l h, rfl, Nat.le_refl _, Nat.min_le_right _ _, Nat.le_refl _, Nat.min_le_right _ _, Nat.le_refl _, Nat.min_le_right _ _, fun _ => ⟨.inl (Nat.min_le_left _ _), .inl (Nat.min_le_left _ _), .inl (Nat.min_le_left _ _)⟩, Terms.nil _ _ _ _, Terms.nil _ _ _ _, Terms.nil _ _ _ _⟩) hr hb
set_option maxHeartbeats 1600000 in
theorem ConS.fill {l h : Nat} {w : World} {b n cap : Nat} {xs : List ConC} (t : ConS true l h w (.slice (some ⟨b, 0, none⟩) n cap) xs) {j : Nat} (hj : j < xs.length) (hh : h ≤ w.heap.size) :
    (∃ c0 c1 c2, w.cell? ⟨b, j * 3, none⟩ = some c0 ∧ w.cell? ⟨b, j * 3 + 1, none⟩ = some c1 ∧ w.cell? ⟨b, j * 3 + 2, none⟩ = some c2) ∧ (∀ i, w.frozen? ⟨b, i, none⟩ = false) ∧ ∀ (x : ConC) ua ub uc L' M1 M2 h', Terms true L' M1 w ua x.a → Terms true M1 M2 w ub x.b → Terms true M2 h' w uc x.c → h ≤ L' → L' ≤ M1 → M1 ≤ M2 → M2 ≤ h' → h ≤ h' → h' ≤ w.heap.size →
      ConS true l h' (((w.setCell ⟨b, j * 3, none⟩ ua).setCell ⟨b, j * 3 + 1, none⟩ ub).setCell ⟨b, j * 3 + 2, none⟩ uc) (.slice (some ⟨b, 0, none⟩) n cap) (xs.set j x) := by
  obtain ⟨hb, ⟨cs, hl, hc⟩, hf, hu⟩ := Shape.row_fill (E := conSh) t hj hh
  match cs, hl with
  | [c0, c1, c2], _ =>
    have k0 : w.cell? ⟨b, j * 3, none⟩ = some c0 := hc 0 c0 rfl
    have k1 : w.cell? ⟨b, j * 3 + 1, none⟩ = some c1 := hc 1 c1 rfl
    have k2 : w.cell? ⟨b, j * 3 + 2, none⟩ = some c2 := hc 2 c2 rfl
    refine ⟨⟨c0, c1, c2, k0, k1, k2⟩, hf, fun x ua ub uc L' M1 M2 h'  ta tb tc hL g0 g1 g2 hhh hhs => ?_⟩
    have hs : Same L' h' w (((w.setCell ⟨b, j * 3, none⟩ ua).setCell ⟨b, j * 3 + 1, none⟩ ub).setCell ⟨b, j * 3 + 2, none⟩ uc) := Same.set (Same.set (Same.set (Same.refl _ _ _) (by omega)) (by omega)) (by omega)
    have m0 : (((w.setCell ⟨b, j * 3, none⟩ ua).setCell ⟨b, j * 3 + 1, none⟩ ub).setCell ⟨b, j * 3 + 2, none⟩ uc).cell? ⟨b, j * 3, none⟩ = some ua := ((World.cell?_setCell_other _ _ _ _ (by simp <;> omega)).trans ((World.cell?_setCell_other _ _ _ _ (by simp <;> omega)).trans (World.cell?_setCell_same _ _ ua k0)))
    have m1 : (((w.setCell ⟨b, j * 3, none⟩ ua).setCell ⟨b, j * 3 + 1, none⟩ ub).setCell ⟨b, j * 3 + 2, none⟩ uc).cell? ⟨b, j * 3 + 1, none⟩ = some ub := ((World.cell?_setCell_other _ _ _ _ (by simp <;> omega)).trans (World.cell?_setCell_same _ _ ub ((World.cell?_setCell_other _ _ _ _ (by simp <;> omega)).trans k1)))
    have m2 : (((w.setCell ⟨b, j * 3, none⟩ ua).setCell ⟨b, j * 3 + 1, none⟩ ub).setCell ⟨b, j * 3 + 2, none⟩ uc).cell? ⟨b, j * 3 + 2, none⟩ = some uc := (World.cell?_setCell_same _ _ uc ((World.cell?_setCell_other _ _ _ _ (by simp <;> omega)).trans ((World.cell?_setCell_other _ _ _ _ (by simp <;> omega)).trans k2)))
    refine hu _ [ua, ub, uc] x L' h' (show Shape.Chg b (j * 3) 3 L' L' w _ from (((Shape.Chg.refl _ _ _ _ _ _).setCell (i := j * 3) (by omega) (by omega) ua).setCell (i := j * 3 + 1) (by omega) (by omega) ub).setCell (i := j * 3 + 2) (by omega) (by omega) uc) (fun f c hx => ?_) ⟨ua, ub, uc, L', M1, M1, M2, M2, h', rfl, Nat.le_refl _, by omega, by omega, by omega, by omega, Nat.le_refl _, fun _ => ⟨.inl (Nat.le_refl _), .inl (by omega), .inl (Nat.le_refl _)⟩, ta, tb, tc⟩ hs hL hhh
    match f, hx with
    | 0, hx => simp only [List.getElem?_cons_succ, List.getElem?_cons_zero, Option.some.injEq] at hx; subst hx; exact m0
    | 1, hx => simp only [List.getElem?_cons_succ, List.getElem?_cons_zero, Option.some.injEq] at hx; subst hx; exact m1
    | 2, hx => simp only [List.getElem?_cons_succ, List.getElem?_cons_zero, Option.some.injEq] at hx; subst hx; exact m2

set_option maxRecDepth 100000 in
set_option maxHeartbeats 3200000 in
theorem toConS_any (o l h v) (xs : List ConC) (w : World) (t : ConS o l h w v xs) (hw : h ≤ w.heap.size) (hlen : xs.length ≤ 1048576) (hel : ∀ x ∈ xs, x.a.length ≤ 1048576 ∧ x.b.length ≤ 1048576 ∧ x.c.length ≤ 1048576) :
    Calls Try.prog 65 #[v] w fun e w' => ∃ u, e = .returned u ∧ Below w.heap.size w w' ∧ ConS true w.heap.size w'.heap.size w' u xs := by
  obtain ⟨a, ca, rfl, la, ba⟩ := t.shape
  obtain ⟨i0, hi, hz0, hz1, hz2⟩ := info_parts ConInfo
  have HE := Lib.hid hel
  clear hel
  go_enter Try.func65, Try.ntmps65
  go_wp2_with (refine wpList_make_full _ rfl _ _ 31 rfl w.heap.size 53 i0 (.agg #[.slice none 0 0, .slice none 0 0, .slice none 0 0]) 3 Try.underlying31 hi hz0 hz1 .i64 .i64 _ _ xs.length rfl rfl rfl rfl (by rw [hz2]; omega) (by unfold maxLen; omega) (Nat.le_refl _) ?_; intro w1 hown hgr)
  have be1 : Below w.heap.size w w1 := (Below.refl _ _).grown hgr (Nat.le_refl _) (fun k e => by simp at e)
  have m1 := ConS.made hown be1.size
  rw [← cp_zero] at m1
  clear hown hgr hi hz0 hz1 hz2
  go_loopw [4] (fun i wr => ∃ k : Nat, k ≤ xs.length ∧ i = .int .i64 k ∧ Below w.heap.size w wr ∧ ConS true w.heap.size wr.heap.size wr (Value.slice (some ⟨w.heap.size, 0, none⟩) xs.length xs.length) (cp ⟨[], [], []⟩ xs k)) (fun i _ => xs.length - (intOf i).toNat)
  case atStart => exact ⟨0, Nat.zero_le _, rfl, be1, m1⟩
  case round =>
    obtain ⟨k, hk, rfl, be, hm⟩ := hrel
    clear be1 m1
    have zb := be.size
    by_cases hlt : k < xs.length
    · obtain ⟨b, off, va, vb, vc, rfl, l1, m1, c0, c1, c2, ta, tb, tc⟩ := (t.keep be hw).at hlt
      obtain ⟨xa, kxa, rfl, lxa, bxa⟩ := ta.shape
      obtain ⟨xb, kxb, rfl, lxb, bxb⟩ := tb.shape
      obtain ⟨xc, kxc, rfl, lxc, bxc⟩ := tc.shape
      obtain ⟨na, nb, nc⟩ := HE.out _ (List.getElem_mem hlt)
      go_wp2_with fail
      refine (toCon_any o l h _ _ _ xs[k] _ ta tb tc (by omega) na nb nc).mono ?_; rintro e w2 ⟨ua, ub, uc, M1, M2, rfl, f2, g0, g1, g2, ra, rb, rc⟩
      obtain ⟨ya, kya, rfl, lya, bya⟩ := ra.shape
      obtain ⟨yb, kyb, rfl, lyb, byb⟩ := rb.shape
      obtain ⟨yc, kyc, rfl, lyc, byc⟩ := rc.shape
      have be2 := be.trans (f2.mono be.size)
      have z2 := f2.size
      have hm2 := hm.keep f2 (Nat.le_refl _)
      have hcl := cp_length ⟨[], [], []⟩ xs k hk
      obtain ⟨⟨z0', z1', z2', cw0, cw1, cw2⟩, fw, st⟩ := hm2.fill (j := k) (by omega) z2
      have st2 := st xs[k] _ _ _ _ _ _ _ ra rb rc (Nat.le_refl _) g0 g1 g2 z2 (Nat.le_refl _)
      rw [cp_set ⟨[], [], []⟩ xs k hlt] at st2
      have be4 := ((be2.setCell (p := ⟨w.heap.size, k * 3, none⟩) (Nat.le_refl _) (.slice ya xs[k].a.length kya)).setCell (p := ⟨w.heap.size, k * 3 + 1, none⟩) (Nat.le_refl _) (.slice yb xs[k].b.length kyb)).setCell (p := ⟨w.heap.size, k * 3 + 2, none⟩) (Nat.le_refl _) (.slice yc xs[k].c.length kyc)
      clear hm hm2 st ra rb rc be be2 hcl na nb nc
      have lg : w.heap.size < w2.heap.size := World.block_lt_of_cell? w2 _ cw0
      go_wp2_with fail
      go_roundw
      case rel => exact ⟨k + 1, by omega, by go_num, be4, by simpa [World.setCell] using st2⟩
      case measure => simp [intOf]; omega
    · obtain rfl : k = xs.length := by omega
      rw [cp_end] at hm
      go_wp2_with fail
      go_ret
      exact ⟨_, rfl, be, hm⟩
end Go.Proofs.Ytaohghgdjnkgdaa.L
