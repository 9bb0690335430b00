/- Systems as bytes: the model's function. -/
import Derived.Test.YtghjcedhoeoiiaaSysB
import Derived.Deep.AppendLies
import Derived.IntWalk
namespace Go.Proofs.Ytghjcedhoeoiiaa.L
open Go.RowKit Go.Proofs.Ytghjcedhoeoiiaa.S
set_option linter.unusedVariables false
set_option linter.unusedSimpArgs false

set_option maxRecDepth 100000 in
set_option maxHeartbeats 6400000 in
theorem l3bytes_any (o l h vi vo vh vc) (s : SysC) (w : World) (t : SysR o l h w vi vo vh vc s) (hw : h ≤ w.heap.size) (hk : sysOk s = true) :
    Calls Try.prog 87 #[.agg #[vi, vo, vh, vc]] w fun e w' => ∃ u, e = .returned u ∧ Below w.heap.size w w' ∧ w'.ownsRow w.heap.size 5 1 u (sysBytes s).length (bv (sysBytes s)) := by
  obtain ⟨tO, tH, tC⟩ := t.parts
  obtain ⟨ao, ko, ah, kh, ac, kc, rfl, rfl, rfl, rfl, lo, bo, lh, bh, lc, bc, fi⟩ := t.shape
  obtain ⟨u0, hi0, hz0, hz1, hz2⟩ := info_parts byteInfo
  obtain ⟨i1, i2, i3, i4, i5⟩ := limB_facts (sysOk_limB hk)
  have OI := Lib.hid (sysOk_outs_in hk)
  have HI := Lib.hid (sysOk_hints_fit hk)
  have CI := Lib.hid (sysOk_cons_in hk)
  clear hk t
  go_enter Try.func87, Try.ntmps87
  go_wp2_with fail
  refine name_wp fun w1 hw1 => ?_
  have b1 : Below w.heap.size w w1 := by rw [hw1]; (repeat (with_reducible first | exact bR _ _ | assumption | refine bD ?_ | refine bN ?_ _ | refine bA ?_ _ | refine bS ?_ _))
  have z1 : w.heap.size + 1 ≤ w1.heap.size := by rw [hw1]; simp
  have cI1 : w1.cell? ⟨w.heap.size, 0, none⟩ = some (.int .i64 s.ins) := by rw [hw1]; first | (simp; done) | go_simp
  have cO1 : w1.cell? ⟨w.heap.size, 1, none⟩ = some (.slice ao s.outs.length ko) := by rw [hw1]; first | (simp; done) | go_simp
  have cH1 : w1.cell? ⟨w.heap.size, 2, none⟩ = some (.slice ah s.hints.length kh) := by rw [hw1]; first | (simp; done) | go_simp
  have cC1 : w1.cell? ⟨w.heap.size, 3, none⟩ = some (.slice ac s.cons.length kc) := by rw [hw1]; first | (simp; done) | go_simp
  clear hw1
  have dd : Below w1.heap.size w1 w1.drew := (Below.refl _ _).drew
  have zd : w1.heap.size ≤ w1.drew.heap.size := Nat.le_refl _
  have ze : w1.drew.heap.size ≤ w1.heap.size := Nat.le_refl _
  have gI : w1.drew.cell? ⟨w.heap.size, 0, none⟩ = some (.int .i64 s.ins) := cell_keep dd cI1
  have gO : w1.drew.cell? ⟨w.heap.size, 1, none⟩ = some (.slice ao s.outs.length ko) := cell_keep dd cO1
  have gH : w1.drew.cell? ⟨w.heap.size, 2, none⟩ = some (.slice ah s.hints.length kh) := cell_keep dd cH1
  have gC : w1.drew.cell? ⟨w.heap.size, 3, none⟩ = some (.slice ac s.cons.length kc) := cell_keep dd cC1
  have row0 : w1.drew.ownsRow (w.heap.size + 1) 5 1 (.slice none 0 0) ([] : List Int).length (bv []) := World.ownsRow_nil _ _ _ _
  have ne0 := own_ne row0 (b := w.heap.size) (.inr (Nat.lt_succ_self _))
  go_region_held3 (fun w' => w'.cell? ⟨w.heap.size, 0, none⟩ = some (.int .i64 s.ins) ∧ w'.cell? ⟨w.heap.size, 1, none⟩ = some (.slice ao s.outs.length ko) ∧ w'.cell? ⟨w.heap.size, 2, none⟩ = some (.slice ah s.hints.length kh) ∧ w'.cell? ⟨w.heap.size, 3, none⟩ = some (.slice ac s.cons.length kc)) (first | exact ⟨gI, gO, gH, gC⟩ | exact ⟨(g1.cell (by omega) ne0 _).trans gI, (g1.cell (by omega) ne0 _).trans gO, (g1.cell (by omega) ne0 _).trans gH, (g1.cell (by omega) ne0 _).trans gC⟩ | exact ⟨((g1.trans g2).cell (by omega) ne0 _).trans gI, ((g1.trans g2).cell (by omega) ne0 _).trans gO, ((g1.trans g2).cell (by omega) ne0 _).trans gH, ((g1.trans g2).cell (by omega) ne0 _).trans gC⟩ | exact ⟨(((g1.trans g2).trans g3).cell (by omega) ne0 _).trans gI, (((g1.trans g2).trans g3).cell (by omega) ne0 _).trans gO, (((g1.trans g2).trans g3).cell (by omega) ne0 _).trans gH, (((g1.trans g2).trans g3).cell (by omega) ne0 _).trans gC⟩ | exact ⟨((((g1.trans g2).trans g3).trans g4).cell (by omega) ne0 _).trans gI, ((((g1.trans g2).trans g3).trans g4).cell (by omega) ne0 _).trans gO, ((((g1.trans g2).trans g3).trans g4).cell (by omega) ne0 _).trans gH, ((((g1.trans g2).trans g3).trans g4).cell (by omega) ne0 _).trans gC⟩)
    (first
      | (go_at_call 102; (with_reducible refine (l3num_any (w.heap.size + 1) (.slice none 0 0) (([] : List Int)) s.ins w1.drew row0 (by omega) (by simp [num4]) (by omega) (by omega)).mono ?_); rintro e y1 ⟨v1, rfl, g1, r1⟩; have z1' := g1.grown.size)
      | (go_at_call 102; (with_reducible refine (l3num_any (w.heap.size + 1) v1 (([] : List Int) ++ num4 s.ins) (s.outs.length : Int) y1 r1 (by omega) (by simp [num4]) (by omega) (by omega)).mono ?_); rintro e y2 ⟨v2, rfl, g2, r2⟩; have z2' := g2.grown.size)
      | (go_at_call 102; (with_reducible refine (l3num_any (w.heap.size + 1) v2 (([] : List Int) ++ num4 s.ins ++ num4 (s.outs.length : Int)) (s.hints.length : Int) y2 r2 (by omega) (by simp [num4]) (by omega) (by omega)).mono ?_); rintro e y3 ⟨v3, rfl, g3, r3⟩; have z3' := g3.grown.size)
      | (go_at_call 102; (with_reducible refine (l3num_any (w.heap.size + 1) v3 (([] : List Int) ++ num4 s.ins ++ num4 (s.outs.length : Int) ++ num4 (s.hints.length : Int)) (s.cons.length : Int) y3 r3 (by omega) (by simp [num4]) (by omega) (by omega)).mono ?_); rintro e y4 ⟨v4, rfl, g4, r4⟩; have z4' := g4.grown.size))
  have G := ((g1.trans g2).trans g3).trans g4
  have f4 := G.below row0 (Nat.le_refl (w.heap.size + 1)) (by omega)
  have b4 : Below w.heap.size w y4 := (b1.trans (dd.mono (by omega))).trans (f4.mono (by omega))
  have kI := (G.cell (b := w.heap.size) (by omega) ne0 _).trans gI
  have kO := (G.cell (b := w.heap.size) (by omega) ne0 _).trans gO
  have kH := (G.cell (b := w.heap.size) (by omega) ne0 _).trans gH
  have kC := (G.cell (b := w.heap.size) (by omega) ne0 _).trans gC
  have row : y4.ownsRow (w.heap.size + 1) 5 1 v4 (headBytes s).length (bv (headBytes s)) := r4
  clear gI gO gH gC g1 g2 g3 g4 G f4 r1 r2 r3 r4 cI1 cO1 cH1 cC1
  have LH : (headBytes s).length = 16 := rfl
  go_wp2_with fail
  go_loopw [3, 4] (fun b i wr => ∃ k : Nat, k ≤ s.outs.length ∧ i = .int .i64 k ∧ Below w.heap.size w wr ∧ w.heap.size + 1 ≤ wr.heap.size ∧ wr.cell? ⟨w.heap.size, 0, none⟩ = some (.int .i64 s.ins) ∧ wr.cell? ⟨w.heap.size, 1, none⟩ = some (.slice ao s.outs.length ko) ∧ wr.cell? ⟨w.heap.size, 2, none⟩ = some (.slice ah s.hints.length kh) ∧ wr.cell? ⟨w.heap.size, 3, none⟩ = some (.slice ac s.cons.length kc) ∧ wr.ownsRow (w.heap.size + 1) 5 1 b (headBytes s ++ (s.outs.take k).flatMap linBytes).length (bv (headBytes s ++ (s.outs.take k).flatMap linBytes))) (fun _ i _ => s.outs.length - (intOf i).toNat)
  case atStart => exact ⟨0, Nat.zero_le _, rfl, b4, by omega, kI, kO, kH, kC, by simpa using row⟩
  case round =>
    clear kI kO kH kC row
    obtain ⟨k, hk, rfl, be, zz, cI, cO, cH, cC, row⟩ := hrel
    by_cases hlt : k < s.outs.length
    · obtain ⟨b, off, va, rfl, l1, m1, c0, ta⟩ := (tO.keep be hw).at hlt
      obtain ⟨x, kx, rfl, lx, bx⟩ := ta.shape
      have HW := OI.out _ (List.getElem_mem hlt)
      obtain ⟨F4, n3⟩ := linW_four HW
      have LF := flat_le (f := linBytes) (M := 24100) (fun x hx => linBytes_le (OI.out x hx)) k
      have LM : s.outs.length * 24100 ≤ 40 * 24100 := Nat.mul_le_mul_right _ i3
      obtain ⟨F, hF⟩ : ∃ F, F = headBytes s ++ (s.outs.take k).flatMap linBytes := ⟨_, rfl⟩
      rw [← hF] at row
      have HE : Hid (headBytes s ++ (s.outs.take (k + 1)).flatMap linBytes = F ++ linBytes s.outs[k]) := Lib.hid (by rw [flat_step hlt, hF]; simp only [List.append_assoc])
      have hlen : F.length ≤ 800000000000 := by rw [hF, List.length_append]; omega
      clear hF LF
      have HF4 := Lib.hid F4
      clear F4 HW LM
      have bl : b < wr.heap.size := World.block_lt_of_cell? _ _ c0
      have lcI : w.heap.size < wr.heap.size := World.block_lt_of_cell? _ _ cI
      go_wp2_with fail
      refine name_call fun wp1 hwp1 => ?_
      have bp1 : Below w.heap.size w wp1 := by rw [hwp1]; (repeat (with_reducible first | exact bR _ _ | assumption | refine bD ?_ | refine bN ?_ _ | refine bA ?_ _ | refine bS ?_ _))
      have zp1 : wr.heap.size + 0 ≤ wp1.heap.size := by rw [hwp1]; simp
      have ep1 : Below wr.heap.size wr wp1 := by rw [hwp1]; (repeat (with_reducible first | exact bR _ _ | assumption | refine bD ?_ | refine bN ?_ _ | refine bA ?_ _ | refine bS ?_ _))
      have cIp1 := cell_keep ep1 cI
      have cOp1 := cell_keep ep1 cO
      have cHp1 := cell_keep ep1 cH
      have cCp1 := cell_keep ep1 cC
      have tAp1 := ta.keep ep1 (by omega)
      clear hwp1 lcI cI cO cH cC ta
      have row1 := row_keep row ep1
      clear row
      refine (l3lin_any (w.heap.size + 1) _ F o l h _ s.outs[k] wp1 row1 (by omega) tAp1 (by omega) HF4.out (by omega) (by omega)).mono ?_; rintro e wp2 ⟨v1, rfl, g1, r1⟩
      have f1 := g1.below row1 (Nat.le_refl (w.heap.size + 1)) (by omega)
      have bp2 := bp1.trans (f1.mono (by omega))
      have zp2 := g1.grown.size
      have kI := (f1.cell (p := ⟨w.heap.size, 0, none⟩) (Nat.lt_succ_self _)).trans cIp1
      have kO := (f1.cell (p := ⟨w.heap.size, 1, none⟩) (Nat.lt_succ_self _)).trans cOp1
      have kH := (f1.cell (p := ⟨w.heap.size, 2, none⟩) (Nat.lt_succ_self _)).trans cHp1
      have kC := (f1.cell (p := ⟨w.heap.size, 3, none⟩) (Nat.lt_succ_self _)).trans cCp1
      clear cIp1 cOp1 cHp1 cCp1 g1 row1 f1
      go_wp2_with fail
      go_roundw
      case rel => exact ⟨k + 1, by omega, by go_num, bp2, by omega, kI, kO, kH, kC, by rw [HE.out]; exact r1⟩
      case measure => simp [intOf]; omega
    · obtain rfl : k = s.outs.length := by omega
      rw [List.take_length] at row
      have L1 : (s.outs.flatMap linBytes).length ≤ 40 * 24100 := by have := flat_le (f := linBytes) (M := 24100) (fun x hx => linBytes_le (OI.out x hx)) s.outs.length; rw [List.take_length] at this; exact Nat.le_trans this (Nat.mul_le_mul_right _ i3)
      have L1T : (headBytes s ++ s.outs.flatMap linBytes).length ≤ 1000000 := by rw [List.length_append]; omega
      go_wp2_with fail
      go_loopw [3, 5] (fun b i wr => ∃ k : Nat, k ≤ s.hints.length ∧ i = .int .i64 k ∧ Below w.heap.size w wr ∧ w.heap.size + 1 ≤ wr.heap.size ∧ wr.cell? ⟨w.heap.size, 0, none⟩ = some (.int .i64 s.ins) ∧ wr.cell? ⟨w.heap.size, 1, none⟩ = some (.slice ao s.outs.length ko) ∧ wr.cell? ⟨w.heap.size, 2, none⟩ = some (.slice ah s.hints.length kh) ∧ wr.cell? ⟨w.heap.size, 3, none⟩ = some (.slice ac s.cons.length kc) ∧ wr.ownsRow (w.heap.size + 1) 5 1 b (headBytes s ++ s.outs.flatMap linBytes ++ (s.hints.take k).flatMap hintBytes).length (bv (headBytes s ++ s.outs.flatMap linBytes ++ (s.hints.take k).flatMap hintBytes))) (fun _ i _ => s.hints.length - (intOf i).toNat)
      case atStart => exact ⟨0, Nat.zero_le _, rfl, be, by omega, cI, cO, cH, cC, by simpa using row⟩
      case round =>
        clear cI cO cH cC row
        obtain ⟨k, hk, rfl, be, zz, cI, cO, cH, cC, row⟩ := hrel
        by_cases hlt : k < s.hints.length
        · obtain ⟨b, off, va, vb, rfl, l1, m1, c0, c1, c2, c3, _, _, ta, tb⟩ := (tH.keep be hw).at hlt
          obtain ⟨x, kx, rfl, lx, bx⟩ := ta.shape
          obtain ⟨y, ky, rfl, ly, by'⟩ := tb.shape
          have HW := HI.out _ (List.getElem_mem hlt)
          obtain ⟨fa, fb, na, nb, q0, q1, j0, j1⟩ := HW
          have LF := flat_le (f := hintBytes) (M := 48100) (fun x hx => hintBytes_le (HI.out x hx)) k
          have LM : s.hints.length * 48100 ≤ 3000 * 48100 := Nat.mul_le_mul_right _ (by omega)
          obtain ⟨F, hF⟩ : ∃ F, F = headBytes s ++ s.outs.flatMap linBytes ++ (s.hints.take k).flatMap hintBytes := ⟨_, rfl⟩
          rw [← hF] at row
          have HE : Hid (headBytes s ++ s.outs.flatMap linBytes ++ (s.hints.take (k + 1)).flatMap hintBytes = F ++ hintBytes s.hints[k]) := Lib.hid (by rw [flat_step hlt, hF]; simp only [List.append_assoc])
          have hlen : F.length ≤ 800000000000 := by rw [hF, List.length_append]; omega
          clear hF LF
          have HFA := Lib.hid fa
          have HFB := Lib.hid fb
          clear fa fb LM
          have bl : b < wr.heap.size := World.block_lt_of_cell? _ _ c0
          go_wp2_with fail
          refine name_wp fun w1 hw1 => ?_
          have b1 : Below wr.heap.size wr w1 := by rw [hw1]; (repeat (with_reducible first | exact bR _ _ | assumption | refine bD ?_ | refine bN ?_ _ | refine bA ?_ _ | refine bS ?_ _))
          have z1 : wr.heap.size + 1 ≤ w1.heap.size := by rw [hw1]; simp
          have z2 : w1.heap.size ≤ wr.heap.size + 1 := by rw [hw1]; simp
          have h0 : w1.cell? ⟨wr.heap.size, 0, none⟩ = some (.int .i64 s.hints[k].kind) := by rw [hw1]; first | (simp; done) | go_simp
          have h1 : w1.cell? ⟨wr.heap.size, 1, none⟩ = some (.slice x s.hints[k].a.length kx) := by rw [hw1]; first | (simp; done) | go_simp
          have h2 : w1.cell? ⟨wr.heap.size, 2, none⟩ = some (.slice y s.hints[k].b.length ky) := by rw [hw1]; first | (simp; done) | go_simp
          have h3 : w1.cell? ⟨wr.heap.size, 3, none⟩ = some (.int .i64 s.hints[k].k) := by rw [hw1]; first | (simp; done) | go_simp
          clear hw1 c0 c1 c2 c3
          have dd : Below w1.heap.size w1 w1.drew := (Below.refl _ _).drew
          have zd : w1.heap.size ≤ w1.drew.heap.size := Nat.le_refl _
          have ze : w1.drew.heap.size ≤ w1.heap.size := Nat.le_refl _
          have bd : Below wr.heap.size wr w1.drew := b1.trans (dd.mono (by omega))
          have g0 := cell_keep dd h0
          have g1 := cell_keep dd h1
          have g2 := cell_keep dd h2
          have g3 := cell_keep dd h3
          have wu : IntKind.u8.wrap s.hints[k].kind = s.hints[k].kind := IntWalk.u8_in _ (by omega)
          have roww := row_keep row b1
          have rowA : ∀ o, (w1.alloc o).drew.ownsRow (w.heap.size + 1) 5 1 _ F.length (bv F) := fun o => row_keep roww ((Below.alloc (Below.refl _ _) (Nat.le_refl _) o).drew)
          have bA : ∀ o, Below w1.drew.heap.size w1.drew (w1.alloc o).drew := fun o => ⟨(Below.alloc (Below.refl w1.heap.size w1) (Nat.le_refl _) o).os, (Below.alloc (Below.refl w1.heap.size w1) (Nat.le_refl _) o).tape, (Below.alloc (Below.refl w1.heap.size w1) (Nat.le_refl _) o).output, (Below.alloc (Below.refl w1.heap.size w1) (Nat.le_refl _) o).size, (Below.alloc (Below.refl w1.heap.size w1) (Nat.le_refl _) o).block⟩
          have row1 := row_keep row bd
          have ne := own_ne row (b := wr.heap.size) (.inl (Nat.le_refl _))
          have uA := ta.keep bd (by omega)
          have uB := tb.keep bd (by omega)
          have lA := Lib.hid (linBytes_length s.hints[k].a)
          have lB := Lib.hid (linBytes_length s.hints[k].b)
          have mI := cell_keep bd cI
          have mO := cell_keep bd cO
          have mH := cell_keep bd cH
          have mC := cell_keep bd cC
          clear row h0 h1 h2 h3 cI cO cH cC
          go_region_held3 (fun w' => w'.cell? ⟨wr.heap.size, 0, none⟩ = some (.int .i64 s.hints[k].kind) ∧ w'.cell? ⟨wr.heap.size, 1, none⟩ = some (.slice x s.hints[k].a.length kx) ∧ w'.cell? ⟨wr.heap.size, 2, none⟩ = some (.slice y s.hints[k].b.length ky) ∧ w'.cell? ⟨wr.heap.size, 3, none⟩ = some (.int .i64 s.hints[k].k)) (first | exact ⟨g0, g1, g2, g3⟩ | exact ⟨alloc_keep g0, alloc_keep g1, alloc_keep g2, alloc_keep g3⟩ | exact ⟨(n1.cell (by omega) ne _).trans g0, (n1.cell (by omega) ne _).trans g1, (n1.cell (by omega) ne _).trans g2, (n1.cell (by omega) ne _).trans g3⟩ | exact ⟨((n1.trans n2).cell (by omega) ne _).trans g0, ((n1.trans n2).cell (by omega) ne _).trans g1, ((n1.trans n2).cell (by omega) ne _).trans g2, ((n1.trans n2).cell (by omega) ne _).trans g3⟩ | exact ⟨(((n1.trans n2).trans n3).cell (by omega) ne _).trans g0, (((n1.trans n2).trans n3).cell (by omega) ne _).trans g1, (((n1.trans n2).trans n3).cell (by omega) ne _).trans g2, (((n1.trans n2).trans n3).cell (by omega) ne _).trans g3⟩ | exact ⟨((((n1.trans n2).trans n3).trans n4).cell (by omega) ne _).trans g0, ((((n1.trans n2).trans n3).trans n4).cell (by omega) ne _).trans g1, ((((n1.trans n2).trans n3).trans n4).cell (by omega) ne _).trans g2, ((((n1.trans n2).trans n3).trans n4).cell (by omega) ne _).trans g3⟩)
            (first
              | (refine step_append_lies ((w1.alloc (.cells #[.int .u8 s.hints[k].kind] 5)).drew) rfl _ _ 22 rfl (w.heap.size + 1) 5 u0 (.int .u8 0) 1 1 Try.underlying22 hi0 hz0 hz1 hz2 rfl (by decide) _ F.length (bv F) rfl (rowA _) _ _ _ (bv [s.hints[k].kind]) rfl rfl (fun j u hj => cell_one_new' w1 (.int .u8 s.hints[k].kind) 5 j u hj) (by intro u hu; obtain ⟨y, _, rfl⟩ := List.mem_map.1 hu; rfl) (by decide) (by unfold maxLen; omega) (by omega) (by simp; omega) _ rfl ?_; intro g cap y1 hown hgrow hloc hglt; go_loud (have n1 : Grew w1.drew y1 _ (.slice (some ⟨g, 0, none⟩) (F.length + 1) cap) := Grew.of_below (bA _) ⟨hgrow, hloc.elim (fun h => .inl (h.symm ▸ rfl)) (fun h => .inr ⟨g, rfl, by rw [h]; exact Nat.le_refl _⟩)⟩); go_loud (have r1 : y1.ownsRow (w.heap.size + 1) 5 1 (.slice (some ⟨g, 0, none⟩) (F.length + 1) cap) (F ++ [s.hints[k].kind]).length (bv (F ++ [s.hints[k].kind])) := by rw [List.length_append, bv_append]; exact hown); go_loud (have z1' := n1.grown.size; have e1 := n1.below row1 (Nat.le_refl (w.heap.size + 1)) (by omega); have L1 : (F ++ [s.hints[k].kind]).length ≤ 800000000001 := by simp; omega); clear hown hgrow hloc hglt)
              | (go_at_call 103; (with_reducible refine (l3lin_any (w.heap.size + 1) _ (F ++ [s.hints[k].kind]) o l h _ s.hints[k].a y1 r1 (by omega) (uA.keep e1 (by omega)) (by omega) HFA.out (by omega) (by omega)).mono ?_); rintro e y2 ⟨v2, rfl, n2, r2⟩; have z2' := n2.grown.size; have e2 := n2.below r1 (Nat.le_refl (w.heap.size + 1)) (by omega); have L2 : (F ++ [s.hints[k].kind] ++ linBytes s.hints[k].a).length ≤ 800000100001 := by rw [List.length_append, lA.out]; omega)
              | (go_at_call 103; (with_reducible refine (l3lin_any (w.heap.size + 1) v2 (F ++ [s.hints[k].kind] ++ linBytes s.hints[k].a) o l h _ s.hints[k].b y2 r2 (by omega) ((uB.keep e1 (by omega)).keep e2 (by omega)) (by omega) HFB.out (by omega) (by omega)).mono ?_); rintro e y3 ⟨v3, rfl, n3, r3⟩; have z3' := n3.grown.size; have e3 := n3.below r2 (Nat.le_refl (w.heap.size + 1)) (by omega); have L3 : (F ++ [s.hints[k].kind] ++ linBytes s.hints[k].a ++ linBytes s.hints[k].b).length ≤ 800000200001 := by rw [List.length_append, lB.out]; omega)
              | (go_at_call 102; (with_reducible refine (l3num_any (w.heap.size + 1) v3 (F ++ [s.hints[k].kind] ++ linBytes s.hints[k].a ++ linBytes s.hints[k].b) s.hints[k].k y3 r3 (by omega) (by omega) j0 j1).mono ?_); rintro e y4' ⟨v4', rfl, n4, r4⟩; have z4' := n4.grown.size))
          have G := ((n1.trans n2).trans n3).trans n4
          have f1 := G.below row1 (Nat.le_refl (w.heap.size + 1)) (by omega)
          have bz : Below w.heap.size w y4' := (be.trans (bd.mono (by omega))).trans (f1.mono (by omega))
          have kI := (f1.cell (p := ⟨w.heap.size, 0, none⟩) (Nat.lt_succ_self _)).trans mI
          have kO := (f1.cell (p := ⟨w.heap.size, 1, none⟩) (Nat.lt_succ_self _)).trans mO
          have kH := (f1.cell (p := ⟨w.heap.size, 2, none⟩) (Nat.lt_succ_self _)).trans mH
          have kC := (f1.cell (p := ⟨w.heap.size, 3, none⟩) (Nat.lt_succ_self _)).trans mC
          clear wu roww rowA bA g0 g1 g2 g3 n1 n2 n3 n4 G f1 row1 r1 r2 r3 e1 e2 e3 mI mO mH mC
          go_wp2_with fail
          go_roundw
          case rel => exact ⟨k + 1, by omega, by go_num, bz, by omega, kI, kO, kH, kC, by rw [HE.out, show F ++ hintBytes s.hints[k] = F ++ [s.hints[k].kind] ++ linBytes s.hints[k].a ++ linBytes s.hints[k].b ++ num4 s.hints[k].k from by simp [hintBytes, List.append_assoc]]; exact r4⟩
          case measure => simp [intOf]; omega
        · obtain rfl : k = s.hints.length := by omega
          rw [List.take_length] at row
          have L2 : (s.hints.flatMap hintBytes).length ≤ 3000 * 48100 := by have := flat_le (f := hintBytes) (M := 48100) (fun x hx => hintBytes_le (HI.out x hx)) s.hints.length; rw [List.take_length] at this; exact Nat.le_trans this (Nat.mul_le_mul_right _ (by omega))
          have L2T : (headBytes s ++ s.outs.flatMap linBytes ++ s.hints.flatMap hintBytes).length ≤ 200000000 := by rw [List.length_append]; omega
          go_wp2_with fail
          go_loopw [3, 7] (fun b i wr => ∃ k : Nat, k ≤ s.cons.length ∧ i = .int .i64 k ∧ Below w.heap.size w wr ∧ w.heap.size + 1 ≤ wr.heap.size ∧ wr.cell? ⟨w.heap.size, 0, none⟩ = some (.int .i64 s.ins) ∧ wr.cell? ⟨w.heap.size, 1, none⟩ = some (.slice ao s.outs.length ko) ∧ wr.cell? ⟨w.heap.size, 2, none⟩ = some (.slice ah s.hints.length kh) ∧ wr.cell? ⟨w.heap.size, 3, none⟩ = some (.slice ac s.cons.length kc) ∧ wr.ownsRow (w.heap.size + 1) 5 1 b (headBytes s ++ s.outs.flatMap linBytes ++ s.hints.flatMap hintBytes ++ (s.cons.take k).flatMap conBytes).length (bv (headBytes s ++ s.outs.flatMap linBytes ++ s.hints.flatMap hintBytes ++ (s.cons.take k).flatMap conBytes))) (fun _ i _ => s.cons.length - (intOf i).toNat)
          case atStart => exact ⟨0, Nat.zero_le _, rfl, be, by omega, cI, cO, cH, cC, by simpa using row⟩
          case round =>
            clear cI cO cH cC row
            obtain ⟨k, hk, rfl, be, zz, cI, cO, cH, cC, row⟩ := hrel
            by_cases hlt : k < s.cons.length
            · obtain ⟨b, off, va, vb, vc, rfl, l1, m1, c0, c1, c2, ta, tb, tc⟩ := (tC.keep be hw).at hlt
              obtain ⟨x, kx, rfl, lx, bx⟩ := ta.shape
              obtain ⟨y, ky, rfl, ly, by'⟩ := tb.shape
              obtain ⟨z, kz, rfl, lz, bz'⟩ := tc.shape
              have HW := CI.out _ (List.getElem_mem hlt)
              obtain ⟨wa, wb, wc⟩ := conW_parts HW
              obtain ⟨fa, na⟩ := linW_four wa
              obtain ⟨fb, nb⟩ := linW_four wb
              obtain ⟨fc, nc'⟩ := linW_four wc
              have LF := flat_le (f := conBytes) (M := 72100) (fun x hx => conBytes_le (CI.out x hx)) k
              have LM : s.cons.length * 72100 ≤ 4000 * 72100 := Nat.mul_le_mul_right _ (by omega)
              obtain ⟨F, hF⟩ : ∃ F, F = headBytes s ++ s.outs.flatMap linBytes ++ s.hints.flatMap hintBytes ++ (s.cons.take k).flatMap conBytes := ⟨_, rfl⟩
              rw [← hF] at row
              have HE : Hid (headBytes s ++ s.outs.flatMap linBytes ++ s.hints.flatMap hintBytes ++ (s.cons.take (k + 1)).flatMap conBytes = F ++ conBytes s.cons[k]) := Lib.hid (by rw [flat_step hlt, hF]; simp only [List.append_assoc])
              have hlen : F.length ≤ 800000000000 := by rw [hF, List.length_append]; omega
              clear hF LF
              have HFA := Lib.hid fa
              have HFB := Lib.hid fb
              have HFC := Lib.hid fc
              clear fa fb fc wa wb wc HW LM
              have bl : b < wr.heap.size := World.block_lt_of_cell? _ _ c0
              have dd : Below wr.heap.size wr wr.drew := (Below.refl _ _).drew
              have zd : wr.heap.size ≤ wr.drew.heap.size := Nat.le_refl _
              have ze : wr.drew.heap.size ≤ wr.heap.size := Nat.le_refl _
              have gI : wr.drew.cell? ⟨w.heap.size, 0, none⟩ = some (.int .i64 s.ins) := cell_keep dd cI
              have gO : wr.drew.cell? ⟨w.heap.size, 1, none⟩ = some (.slice ao s.outs.length ko) := cell_keep dd cO
              have gH : wr.drew.cell? ⟨w.heap.size, 2, none⟩ = some (.slice ah s.hints.length kh) := cell_keep dd cH
              have gC : wr.drew.cell? ⟨w.heap.size, 3, none⟩ = some (.slice (some ⟨b, off, none⟩) s.cons.length kc) := cell_keep dd cC
              have gt0 : wr.drew.cell? ⟨b, off + k * 3, none⟩ = some (.slice x s.cons[k].a.length kx) := cell_keep dd c0
              have gt1 : wr.drew.cell? ⟨b, off + k * 3 + 1, none⟩ = some (.slice y s.cons[k].b.length ky) := cell_keep dd c1
              have gt2 : wr.drew.cell? ⟨b, off + k * 3 + 2, none⟩ = some (.slice z s.cons[k].c.length kz) := cell_keep dd c2
              have row1 := row_keep row dd
              have ne := own_ne row1 (b := w.heap.size) (.inr (Nat.lt_succ_self _))
              have nb := own_ne row1 (b := b) (.inr (by omega))
              have uA := ta.keep dd (by omega)
              have uB := tb.keep dd (by omega)
              have uC := tc.keep dd (by omega)
              have lA := Lib.hid (linBytes_length s.cons[k].a)
              have lB := Lib.hid (linBytes_length s.cons[k].b)
              clear row cI cO cH c0 c1 c2
              go_wp2_with fail
              clear cC
              go_region_held3 (fun w' => w'.cell? ⟨w.heap.size, 0, none⟩ = some (.int .i64 s.ins) ∧ w'.cell? ⟨w.heap.size, 1, none⟩ = some (.slice ao s.outs.length ko) ∧ w'.cell? ⟨w.heap.size, 2, none⟩ = some (.slice ah s.hints.length kh) ∧ w'.cell? ⟨w.heap.size, 3, none⟩ = some (.slice (some ⟨b, off, none⟩) s.cons.length kc) ∧ w'.cell? ⟨b, off + k * 3, none⟩ = some (.slice x s.cons[k].a.length kx) ∧ w'.cell? ⟨b, off + k * 3 + 1, none⟩ = some (.slice y s.cons[k].b.length ky) ∧ w'.cell? ⟨b, off + k * 3 + 2, none⟩ = some (.slice z s.cons[k].c.length kz)) (first | exact ⟨gI, gO, gH, gC, gt0, gt1, gt2⟩ | exact ⟨(n1.cell (by omega) ne _).trans gI, (n1.cell (by omega) ne _).trans gO, (n1.cell (by omega) ne _).trans gH, (n1.cell (by omega) ne _).trans gC, (n1.cell (by omega) nb _).trans gt0, (n1.cell (by omega) nb _).trans gt1, (n1.cell (by omega) nb _).trans gt2⟩ | exact ⟨((n1.trans n2).cell (by omega) ne _).trans gI, ((n1.trans n2).cell (by omega) ne _).trans gO, ((n1.trans n2).cell (by omega) ne _).trans gH, ((n1.trans n2).cell (by omega) ne _).trans gC, ((n1.trans n2).cell (by omega) nb _).trans gt0, ((n1.trans n2).cell (by omega) nb _).trans gt1, ((n1.trans n2).cell (by omega) nb _).trans gt2⟩ | exact ⟨(((n1.trans n2).trans n3).cell (by omega) ne _).trans gI, (((n1.trans n2).trans n3).cell (by omega) ne _).trans gO, (((n1.trans n2).trans n3).cell (by omega) ne _).trans gH, (((n1.trans n2).trans n3).cell (by omega) ne _).trans gC, (((n1.trans n2).trans n3).cell (by omega) nb _).trans gt0, (((n1.trans n2).trans n3).cell (by omega) nb _).trans gt1, (((n1.trans n2).trans n3).cell (by omega) nb _).trans gt2⟩)
                (first
                  | (go_at_call 103; (with_reducible refine (l3lin_any (w.heap.size + 1) _ (F) o l h _ s.cons[k].a wr.drew row1 (by omega) uA (by omega) HFA.out (by omega) (by omega)).mono ?_); rintro e y1 ⟨v1, rfl, n1, r1⟩; have e1 := n1.below row1 (Nat.le_refl (w.heap.size + 1)) (by omega); have z1' := n1.grown.size; have L1 : (F ++ linBytes s.cons[k].a).length ≤ 800000100000 := by rw [List.length_append, lA.out]; omega)
                  | (go_at_call 103; (with_reducible refine (l3lin_any (w.heap.size + 1) v1 (F ++ linBytes s.cons[k].a) o l h _ s.cons[k].b y1 r1 (by omega) (uB.keep e1 (by omega)) (by omega) HFB.out (by omega) (by omega)).mono ?_); rintro e y2 ⟨v2, rfl, n2, r2⟩; have e2 := n2.below r1 (Nat.le_refl (w.heap.size + 1)) (by omega); have z2' := n2.grown.size; have L2 : (F ++ linBytes s.cons[k].a ++ linBytes s.cons[k].b).length ≤ 800000200000 := by rw [List.length_append, lB.out]; omega)
                  | (go_at_call 103; (with_reducible refine (l3lin_any (w.heap.size + 1) v2 (F ++ linBytes s.cons[k].a ++ linBytes s.cons[k].b) o l h _ s.cons[k].c y2 r2 (by omega) ((uC.keep e1 (by omega)).keep e2 (by omega)) (by omega) HFC.out (by omega) (by omega)).mono ?_); rintro e y3 ⟨v3, rfl, n3, r3⟩; have e3 := n3.below r2 (Nat.le_refl (w.heap.size + 1)) (by omega); have z3' := n3.grown.size))
              have G := (n1.trans n2).trans n3
              have f1 := G.below row1 (Nat.le_refl (w.heap.size + 1)) (by omega)
              have bz : Below w.heap.size w y3 := (be.trans (dd.mono (by omega))).trans (f1.mono (by omega))
              have kI := (G.cell (b := w.heap.size) (by omega) ne _).trans gI
              have kO := (G.cell (b := w.heap.size) (by omega) ne _).trans gO
              have kH := (G.cell (b := w.heap.size) (by omega) ne _).trans gH
              have kC := (G.cell (b := w.heap.size) (by omega) ne _).trans gC
              clear gI gO gH gC gt0 gt1 gt2 n1 n2 n3 G f1 row1 r1 r2 e1 e2 e3
              go_wp2_with fail
              go_roundw
              case rel => exact ⟨k + 1, by omega, by go_num, bz, by omega, kI, kO, kH, kC, by rw [HE.out, show F ++ conBytes s.cons[k] = F ++ linBytes s.cons[k].a ++ linBytes s.cons[k].b ++ linBytes s.cons[k].c from by simp [conBytes, List.append_assoc]]; exact r3⟩
              case measure => simp [intOf]; omega
            · obtain rfl : k = s.cons.length := by omega
              rw [List.take_length] at row
              have L3 : (s.cons.flatMap conBytes).length ≤ 4000 * 72100 := by have := flat_le (f := conBytes) (M := 72100) (fun x hx => conBytes_le (CI.out x hx)) s.cons.length; rw [List.take_length] at this; exact Nat.le_trans this (Nat.mul_le_mul_right _ (by omega))
              have fin := row_base row (Nat.le_succ w.heap.size)
              have fin2 : wr.ownsRow w.heap.size 5 1 _ (sysBytes s).length (bv (sysBytes s)) := fin
              clear row fin
              go_wp2_with fail
              go_ret
              exact ⟨_, rfl, be, fin2⟩
end Go.Proofs.Ytghjcedhoeoiiaa.L
