/- B22: SysB SpecB SysB2 Grown -/
import Derived.Test.YtcenijdaacbgpaaB20
import Derived.Test.YtcenijdaacbgpaaB9
import Derived.Deep.AppendLies
import Derived.IntWalk
import Derived.Laws.BytesString
import Derived.Laws.Cells
set_option linter.unusedVariables false
set_option linter.unusedSimpArgs false
/- Systems as bytes: the program's function. -/
namespace Go.Proofs.Ytcenijdaacbgpaa.L
open Go.RowKit Go.Proofs.Ytcenijdaacbgpaa.S
set_option linter.unusedVariables false
set_option linter.unusedSimpArgs false

theorem row_base {w : World} {base base' : Nat} {e : TypeId} {size n : Nat} {v : Value} {xs : List Value} (h : w.ownsRow base e size v n xs) (hb : base' ≤ base) : w.ownsRow base' e size v n xs :=
  ⟨h.1, h.2.imp id (fun ⟨g, cap, cur, e1, e2, e3⟩ => ⟨g, cap, cur, e1, by omega, e3⟩)⟩
theorem flat_step {α : Type} {f : α → List Int} {xs : List α} {k : Nat} (hk : k < xs.length) : (xs.take (k + 1)).flatMap f = (xs.take k).flatMap f ++ f xs[k] := by
  rw [take_step (List.getElem?_eq_getElem hk), List.flatMap_append]; simp
theorem flat_le {α : Type} {f : α → List Int} {M : Nat} : ∀ {xs : List α} (h : ∀ x ∈ xs, (f x).length ≤ M) (k : Nat), ((xs.take k).flatMap f).length ≤ xs.length * M
  | [], _, k => by simp
  | x :: r, h, 0 => by simp
  | x :: r, h, k + 1 => by
    have := flat_le (fun y hy => h y (List.mem_cons_of_mem _ hy)) k (xs := r)
    have h1 := h x (List.mem_cons_self)
    rw [List.take_succ_cons, List.flatMap_cons, List.length_append, List.length_cons, Nat.add_mul]; omega
def headBytes (s : SysC) : List Int := num4 s.ins ++ num4 (s.outs.length : Int) ++ num4 (s.hints.length : Int) ++ num4 (s.cons.length : Int)
def sysBytes (s : SysC) : List Int := headBytes s ++ s.outs.flatMap linBytes ++ s.hints.flatMap hintBytes ++ s.cons.flatMap conBytes
def sysB (s : SysC) : List Int := if sysOk s = true then sysBytes s else []
theorem linW_four {n : Int} {ts : List T} (h : linW n ts = true) : Four ts ∧ ts.length ≤ 3000 := by
  unfold linW at h
  rw [Bool.and_eq_true] at h
  refine ⟨fun t ht => ?_, linOk_length h.1⟩
  obtain ⟨i, hi⟩ := List.mem_iff_getElem?.1 ht
  have := linOk_at h.1 hi
  omega
theorem hintsB_in : ∀ {hs : List HintC} {n : Int}, hintsB n hs = true → ∀ x ∈ hs, ∃ m, hintW m x = true
  | [], _, _, x, hx => by cases hx
  | y :: r, n, h, x, hx => by
    rw [hintsB, Bool.and_eq_true] at h
    rcases List.mem_cons.1 hx with rfl | hx
    · exact ⟨n, h.1⟩
    · exact hintsB_in h.2 x hx
structure HintFit (x : HintC) : Prop where
  fa : Four x.a
  fb : Four x.b
  na : x.a.length ≤ 3000
  nb : x.b.length ≤ 3000
  k0 : 0 ≤ x.kind
  k1 : x.kind ≤ 255
  j0 : 0 ≤ x.k
  j1 : x.k ≤ 4294967295
theorem hintW_fit {n : Int} {x : HintC} (h : hintW n x = true) : HintFit x := by
  unfold hintW at h
  rw [Bool.and_eq_true, Bool.and_eq_true] at h
  obtain ⟨f1, n1⟩ := linW_four h.1
  obtain ⟨f2, n2⟩ := linW_four h.2.1
  have hk := of_decide_eq_true h.2.2
  exact ⟨f1, f2, n1, n2, by omega, by omega, by omega, by omega⟩
theorem sysOk_hints_fit {s : SysC} (h : sysOk s = true) : ∀ x ∈ s.hints, HintFit x := by
  have h2 : hintsB (1 + s.ins) s.hints = true := by
    cases hc : hintsB (1 + s.ins) s.hints
    · rw [sysOk_hints hc] at h; cases h
    · rfl
  intro x hx
  obtain ⟨m, hm⟩ := hintsB_in h2 x hx
  exact hintW_fit hm
theorem hintBytes_le {x : HintC} (h : HintFit x) : (hintBytes x).length ≤ 48100 := by
  have := h.na; have := h.nb
  simp only [hintBytes, List.length_append, linBytes_length, num4_length, List.length_singleton]; omega
theorem conBytes_le {n : Int} {c : ConC} (h : conW n c = true) : (conBytes c).length ≤ 72100 := by
  obtain ⟨a, b, d⟩ := conW_parts h
  have := (linW_four a).2; have := (linW_four b).2; have := (linW_four d).2
  simp only [conBytes, List.length_append, linBytes_length]; omega
theorem linBytes_le {n : Int} {ts : List T} (h : linW n ts = true) : (linBytes ts).length ≤ 24100 := by
  have := (linW_four h).2
  rw [linBytes_length]; omega

end Go.Proofs.Ytcenijdaacbgpaa.L

/- Systems as bytes: the model's function. -/
namespace Go.Proofs.Ytcenijdaacbgpaa.L
open Go.RowKit Go.Proofs.Ytcenijdaacbgpaa.S
set_option linter.unusedVariables false
set_option linter.unusedSimpArgs false

set_option maxRecDepth 100000 in
set_option maxHeartbeats 6400000 in
theorem l3bytes_any (o l h vi vo vh vc) (s : SysC) (w : World) (t : SysR o l h w vi vo vh vc s) (hw : h ≤ w.heap.size) (hk : sysOk s = true) :
    Calls Try.prog 71 #[.agg #[vi, vo, vh, vc]] w fun e w' => ∃ u, e = .returned u ∧ Below w.heap.size w w' ∧ w'.ownsRow w.heap.size 5 1 u (sysBytes s).length (bv (sysBytes s)) := by
  obtain ⟨tO, tH, tC⟩ := t.parts
  obtain ⟨ao, ko, ah, kh, ac, kc, rfl, rfl, rfl, rfl, lo, bo, lh, bh, lc, bc, fi⟩ := t.shape
  obtain ⟨u0, hi0, hz0, hz1, hz2⟩ := info_parts byteInfo
  obtain ⟨i1, i2, i3, i4, i5⟩ := limB_facts (sysOk_limB hk)
  have OI := Lib.hid (sysOk_outs_in hk)
  have HI := Lib.hid (sysOk_hints_fit hk)
  have CI := Lib.hid (sysOk_cons_in hk)
  clear hk t
  go_enter Try.func71, Try.ntmps71
  go_wp2_with fail
  refine name_wp fun w1 hw1 => ?_
  have b1 : Below w.heap.size w w1 := by rw [hw1]; (repeat (with_reducible first | exact bR _ _ | assumption | refine bD ?_ | refine bN ?_ _ | refine bA ?_ _ | refine bS ?_ _))
  have z1 : w.heap.size + 1 ≤ w1.heap.size := by rw [hw1]; simp
  have cI1 : w1.cell? ⟨w.heap.size, 0, none⟩ = some (.int .i64 s.ins) := by rw [hw1]; first | (simp; done) | go_simp
  have cO1 : w1.cell? ⟨w.heap.size, 1, none⟩ = some (.slice ao s.outs.length ko) := by rw [hw1]; first | (simp; done) | go_simp
  have cH1 : w1.cell? ⟨w.heap.size, 2, none⟩ = some (.slice ah s.hints.length kh) := by rw [hw1]; first | (simp; done) | go_simp
  have cC1 : w1.cell? ⟨w.heap.size, 3, none⟩ = some (.slice ac s.cons.length kc) := by rw [hw1]; first | (simp; done) | go_simp
  clear hw1
  have dd : Below w1.heap.size w1 w1.drew := (Below.refl _ _).drew
  have zd : w1.heap.size ≤ w1.drew.heap.size := Nat.le_refl _
  have ze : w1.drew.heap.size ≤ w1.heap.size := Nat.le_refl _
  have gI : w1.drew.cell? ⟨w.heap.size, 0, none⟩ = some (.int .i64 s.ins) := cell_keep dd cI1
  have gO : w1.drew.cell? ⟨w.heap.size, 1, none⟩ = some (.slice ao s.outs.length ko) := cell_keep dd cO1
  have gH : w1.drew.cell? ⟨w.heap.size, 2, none⟩ = some (.slice ah s.hints.length kh) := cell_keep dd cH1
  have gC : w1.drew.cell? ⟨w.heap.size, 3, none⟩ = some (.slice ac s.cons.length kc) := cell_keep dd cC1
  have row0 : w1.drew.ownsRow (w.heap.size + 1) 5 1 (.slice none 0 0) ([] : List Int).length (bv []) := World.ownsRow_nil _ _ _ _
  have ne0 := own_ne row0 (b := w.heap.size) (.inr (Nat.lt_succ_self _))
  go_region_held3 (fun w' => w'.cell? ⟨w.heap.size, 0, none⟩ = some (.int .i64 s.ins) ∧ w'.cell? ⟨w.heap.size, 1, none⟩ = some (.slice ao s.outs.length ko) ∧ w'.cell? ⟨w.heap.size, 2, none⟩ = some (.slice ah s.hints.length kh) ∧ w'.cell? ⟨w.heap.size, 3, none⟩ = some (.slice ac s.cons.length kc)) (first | exact ⟨gI, gO, gH, gC⟩ | exact ⟨(g1.cell (by omega) ne0 _).trans gI, (g1.cell (by omega) ne0 _).trans gO, (g1.cell (by omega) ne0 _).trans gH, (g1.cell (by omega) ne0 _).trans gC⟩ | exact ⟨((g1.trans g2).cell (by omega) ne0 _).trans gI, ((g1.trans g2).cell (by omega) ne0 _).trans gO, ((g1.trans g2).cell (by omega) ne0 _).trans gH, ((g1.trans g2).cell (by omega) ne0 _).trans gC⟩ | exact ⟨(((g1.trans g2).trans g3).cell (by omega) ne0 _).trans gI, (((g1.trans g2).trans g3).cell (by omega) ne0 _).trans gO, (((g1.trans g2).trans g3).cell (by omega) ne0 _).trans gH, (((g1.trans g2).trans g3).cell (by omega) ne0 _).trans gC⟩ | exact ⟨((((g1.trans g2).trans g3).trans g4).cell (by omega) ne0 _).trans gI, ((((g1.trans g2).trans g3).trans g4).cell (by omega) ne0 _).trans gO, ((((g1.trans g2).trans g3).trans g4).cell (by omega) ne0 _).trans gH, ((((g1.trans g2).trans g3).trans g4).cell (by omega) ne0 _).trans gC⟩)
    (first
      | (go_at_call 83; (with_reducible refine (l3num_any (w.heap.size + 1) (.slice none 0 0) (([] : List Int)) s.ins w1.drew row0 (by omega) (by simp [num4]) (by omega) (by omega)).mono ?_); rintro e y1 ⟨v1, rfl, g1, r1⟩; have z1' := g1.grown.size)
      | (go_at_call 83; (with_reducible refine (l3num_any (w.heap.size + 1) v1 (([] : List Int) ++ num4 s.ins) (s.outs.length : Int) y1 r1 (by omega) (by simp [num4]) (by omega) (by omega)).mono ?_); rintro e y2 ⟨v2, rfl, g2, r2⟩; have z2' := g2.grown.size)
      | (go_at_call 83; (with_reducible refine (l3num_any (w.heap.size + 1) v2 (([] : List Int) ++ num4 s.ins ++ num4 (s.outs.length : Int)) (s.hints.length : Int) y2 r2 (by omega) (by simp [num4]) (by omega) (by omega)).mono ?_); rintro e y3 ⟨v3, rfl, g3, r3⟩; have z3' := g3.grown.size)
      | (go_at_call 83; (with_reducible refine (l3num_any (w.heap.size + 1) v3 (([] : List Int) ++ num4 s.ins ++ num4 (s.outs.length : Int) ++ num4 (s.hints.length : Int)) (s.cons.length : Int) y3 r3 (by omega) (by simp [num4]) (by omega) (by omega)).mono ?_); rintro e y4 ⟨v4, rfl, g4, r4⟩; have z4' := g4.grown.size))
  have G := ((g1.trans g2).trans g3).trans g4
  have f4 := G.below row0 (Nat.le_refl (w.heap.size + 1)) (by omega)
  have b4 : Below w.heap.size w y4 := (b1.trans (dd.mono (by omega))).trans (f4.mono (by omega))
  have kI := (G.cell (b := w.heap.size) (by omega) ne0 _).trans gI
  have kO := (G.cell (b := w.heap.size) (by omega) ne0 _).trans gO
  have kH := (G.cell (b := w.heap.size) (by omega) ne0 _).trans gH
  have kC := (G.cell (b := w.heap.size) (by omega) ne0 _).trans gC
  have row : y4.ownsRow (w.heap.size + 1) 5 1 v4 (headBytes s).length (bv (headBytes s)) := r4
  clear gI gO gH gC g1 g2 g3 g4 G f4 r1 r2 r3 r4 cI1 cO1 cH1 cC1
  have LH : (headBytes s).length = 16 := rfl
  go_wp2_with fail
  go_loopw [3, 4] (fun b i wr => ∃ k : Nat, k ≤ s.outs.length ∧ i = .int .i64 k ∧ Below w.heap.size w wr ∧ w.heap.size + 1 ≤ wr.heap.size ∧ wr.cell? ⟨w.heap.size, 0, none⟩ = some (.int .i64 s.ins) ∧ wr.cell? ⟨w.heap.size, 1, none⟩ = some (.slice ao s.outs.length ko) ∧ wr.cell? ⟨w.heap.size, 2, none⟩ = some (.slice ah s.hints.length kh) ∧ wr.cell? ⟨w.heap.size, 3, none⟩ = some (.slice ac s.cons.length kc) ∧ wr.ownsRow (w.heap.size + 1) 5 1 b (headBytes s ++ (s.outs.take k).flatMap linBytes).length (bv (headBytes s ++ (s.outs.take k).flatMap linBytes))) (fun _ i _ => s.outs.length - (intOf i).toNat)
  case atStart => exact ⟨0, Nat.zero_le _, rfl, b4, by omega, kI, kO, kH, kC, by simpa using row⟩
  case round =>
    clear kI kO kH kC row
    obtain ⟨k, hk, rfl, be, zz, cI, cO, cH, cC, row⟩ := hrel
    by_cases hlt : k < s.outs.length
    · obtain ⟨b, off, va, rfl, l1, m1, c0, ta⟩ := (tO.keep be hw).at hlt
      obtain ⟨x, kx, rfl, lx, bx⟩ := ta.shape
      have HW := OI.out _ (List.getElem_mem hlt)
      obtain ⟨F4, n3⟩ := linW_four HW
      have LF := flat_le (f := linBytes) (M := 24100) (fun x hx => linBytes_le (OI.out x hx)) k
      have LM : s.outs.length * 24100 ≤ 40 * 24100 := Nat.mul_le_mul_right _ i3
      obtain ⟨F, hF⟩ : ∃ F, F = headBytes s ++ (s.outs.take k).flatMap linBytes := ⟨_, rfl⟩
      rw [← hF] at row
      have HE : Hid (headBytes s ++ (s.outs.take (k + 1)).flatMap linBytes = F ++ linBytes s.outs[k]) := Lib.hid (by rw [flat_step hlt, hF]; simp only [List.append_assoc])
      have hlen : F.length ≤ 800000000000 := by rw [hF, List.length_append]; omega
      clear hF LF
      have HF4 := Lib.hid F4
      clear F4 HW LM
      have bl : b < wr.heap.size := World.block_lt_of_cell? _ _ c0
      have lcI : w.heap.size < wr.heap.size := World.block_lt_of_cell? _ _ cI
      go_wp2_with fail
      refine name_call fun wp1 hwp1 => ?_
      have bp1 : Below w.heap.size w wp1 := by rw [hwp1]; (repeat (with_reducible first | exact bR _ _ | assumption | refine bD ?_ | refine bN ?_ _ | refine bA ?_ _ | refine bS ?_ _))
      have zp1 : wr.heap.size + 0 ≤ wp1.heap.size := by rw [hwp1]; simp
      have ep1 : Below wr.heap.size wr wp1 := by rw [hwp1]; (repeat (with_reducible first | exact bR _ _ | assumption | refine bD ?_ | refine bN ?_ _ | refine bA ?_ _ | refine bS ?_ _))
      have cIp1 := cell_keep ep1 cI
      have cOp1 := cell_keep ep1 cO
      have cHp1 := cell_keep ep1 cH
      have cCp1 := cell_keep ep1 cC
      have tAp1 := ta.keep ep1 (by omega)
      clear hwp1 lcI cI cO cH cC ta
      have row1 := row_keep row ep1
      clear row
      refine (l3lin_any (w.heap.size + 1) _ F o l h _ s.outs[k] wp1 row1 (by omega) tAp1 (by omega) HF4.out (by omega) (by omega)).mono ?_; rintro e wp2 ⟨v1, rfl, g1, r1⟩
      have f1 := g1.below row1 (Nat.le_refl (w.heap.size + 1)) (by omega)
      have bp2 := bp1.trans (f1.mono (by omega))
      have zp2 := g1.grown.size
      have kI := (f1.cell (p := ⟨w.heap.size, 0, none⟩) (Nat.lt_succ_self _)).trans cIp1
      have kO := (f1.cell (p := ⟨w.heap.size, 1, none⟩) (Nat.lt_succ_self _)).trans cOp1
      have kH := (f1.cell (p := ⟨w.heap.size, 2, none⟩) (Nat.lt_succ_self _)).trans cHp1
      have kC := (f1.cell (p := ⟨w.heap.size, 3, none⟩) (Nat.lt_succ_self _)).trans cCp1
      clear cIp1 cOp1 cHp1 cCp1 g1 row1 f1
      go_wp2_with fail
      go_roundw
      case rel => exact ⟨k + 1, by omega, by go_num, bp2, by omega, kI, kO, kH, kC, by rw [HE.out]; exact r1⟩
      case measure => simp [intOf]; omega
    · obtain rfl : k = s.outs.length := by omega
      rw [List.take_length] at row
      have L1 : (s.outs.flatMap linBytes).length ≤ 40 * 24100 := by have := flat_le (f := linBytes) (M := 24100) (fun x hx => linBytes_le (OI.out x hx)) s.outs.length; rw [List.take_length] at this; exact Nat.le_trans this (Nat.mul_le_mul_right _ i3)
      have L1T : (headBytes s ++ s.outs.flatMap linBytes).length ≤ 1000000 := by rw [List.length_append]; omega
      go_wp2_with fail
      go_loopw [3, 5] (fun b i wr => ∃ k : Nat, k ≤ s.hints.length ∧ i = .int .i64 k ∧ Below w.heap.size w wr ∧ w.heap.size + 1 ≤ wr.heap.size ∧ wr.cell? ⟨w.heap.size, 0, none⟩ = some (.int .i64 s.ins) ∧ wr.cell? ⟨w.heap.size, 1, none⟩ = some (.slice ao s.outs.length ko) ∧ wr.cell? ⟨w.heap.size, 2, none⟩ = some (.slice ah s.hints.length kh) ∧ wr.cell? ⟨w.heap.size, 3, none⟩ = some (.slice ac s.cons.length kc) ∧ wr.ownsRow (w.heap.size + 1) 5 1 b (headBytes s ++ s.outs.flatMap linBytes ++ (s.hints.take k).flatMap hintBytes).length (bv (headBytes s ++ s.outs.flatMap linBytes ++ (s.hints.take k).flatMap hintBytes))) (fun _ i _ => s.hints.length - (intOf i).toNat)
      case atStart => exact ⟨0, Nat.zero_le _, rfl, be, by omega, cI, cO, cH, cC, by simpa using row⟩
      case round =>
        clear cI cO cH cC row
        obtain ⟨k, hk, rfl, be, zz, cI, cO, cH, cC, row⟩ := hrel
        by_cases hlt : k < s.hints.length
        · obtain ⟨b, off, va, vb, rfl, l1, m1, c0, c1, c2, c3, _, _, ta, tb⟩ := (tH.keep be hw).at hlt
          obtain ⟨x, kx, rfl, lx, bx⟩ := ta.shape
          obtain ⟨y, ky, rfl, ly, by'⟩ := tb.shape
          have HW := HI.out _ (List.getElem_mem hlt)
          obtain ⟨fa, fb, na, nb, q0, q1, j0, j1⟩ := HW
          have LF := flat_le (f := hintBytes) (M := 48100) (fun x hx => hintBytes_le (HI.out x hx)) k
          have LM : s.hints.length * 48100 ≤ 3000 * 48100 := Nat.mul_le_mul_right _ (by omega)
          obtain ⟨F, hF⟩ : ∃ F, F = headBytes s ++ s.outs.flatMap linBytes ++ (s.hints.take k).flatMap hintBytes := ⟨_, rfl⟩
          rw [← hF] at row
          have HE : Hid (headBytes s ++ s.outs.flatMap linBytes ++ (s.hints.take (k + 1)).flatMap hintBytes = F ++ hintBytes s.hints[k]) := Lib.hid (by rw [flat_step hlt, hF]; simp only [List.append_assoc])
          have hlen : F.length ≤ 800000000000 := by rw [hF, List.length_append]; omega
          clear hF LF
          have HFA := Lib.hid fa
          have HFB := Lib.hid fb
          clear fa fb LM
          have bl : b < wr.heap.size := World.block_lt_of_cell? _ _ c0
          go_wp2_with fail
          refine name_wp fun w1 hw1 => ?_
          have b1 : Below wr.heap.size wr w1 := by rw [hw1]; (repeat (with_reducible first | exact bR _ _ | assumption | refine bD ?_ | refine bN ?_ _ | refine bA ?_ _ | refine bS ?_ _))
          have z1 : wr.heap.size + 1 ≤ w1.heap.size := by rw [hw1]; simp
          have z2 : w1.heap.size ≤ wr.heap.size + 1 := by rw [hw1]; simp
          have h0 : w1.cell? ⟨wr.heap.size, 0, none⟩ = some (.int .i64 s.hints[k].kind) := by rw [hw1]; first | (simp; done) | go_simp
          have h1 : w1.cell? ⟨wr.heap.size, 1, none⟩ = some (.slice x s.hints[k].a.length kx) := by rw [hw1]; first | (simp; done) | go_simp
          have h2 : w1.cell? ⟨wr.heap.size, 2, none⟩ = some (.slice y s.hints[k].b.length ky) := by rw [hw1]; first | (simp; done) | go_simp
          have h3 : w1.cell? ⟨wr.heap.size, 3, none⟩ = some (.int .i64 s.hints[k].k) := by rw [hw1]; first | (simp; done) | go_simp
          clear hw1 c0 c1 c2 c3
          have dd : Below w1.heap.size w1 w1.drew := (Below.refl _ _).drew
          have zd : w1.heap.size ≤ w1.drew.heap.size := Nat.le_refl _
          have ze : w1.drew.heap.size ≤ w1.heap.size := Nat.le_refl _
          have bd : Below wr.heap.size wr w1.drew := b1.trans (dd.mono (by omega))
          have g0 := cell_keep dd h0
          have g1 := cell_keep dd h1
          have g2 := cell_keep dd h2
          have g3 := cell_keep dd h3
          have wu : IntKind.u8.wrap s.hints[k].kind = s.hints[k].kind := IntWalk.u8_in _ (by omega)
          have roww := row_keep row b1
          have rowA : ∀ o, (w1.alloc o).drew.ownsRow (w.heap.size + 1) 5 1 _ F.length (bv F) := fun o => row_keep roww ((Below.alloc (Below.refl _ _) (Nat.le_refl _) o).drew)
          have bA : ∀ o, Below w1.drew.heap.size w1.drew (w1.alloc o).drew := fun o => ⟨(Below.alloc (Below.refl w1.heap.size w1) (Nat.le_refl _) o).os, (Below.alloc (Below.refl w1.heap.size w1) (Nat.le_refl _) o).tape, (Below.alloc (Below.refl w1.heap.size w1) (Nat.le_refl _) o).output, (Below.alloc (Below.refl w1.heap.size w1) (Nat.le_refl _) o).size, (Below.alloc (Below.refl w1.heap.size w1) (Nat.le_refl _) o).block⟩
          have row1 := row_keep row bd
          have ne := own_ne row (b := wr.heap.size) (.inl (Nat.le_refl _))
          have uA := ta.keep bd (by omega)
          have uB := tb.keep bd (by omega)
          have lA := Lib.hid (linBytes_length s.hints[k].a)
          have lB := Lib.hid (linBytes_length s.hints[k].b)
          have mI := cell_keep bd cI
          have mO := cell_keep bd cO
          have mH := cell_keep bd cH
          have mC := cell_keep bd cC
          clear row h0 h1 h2 h3 cI cO cH cC
          go_region_held3 (fun w' => w'.cell? ⟨wr.heap.size, 0, none⟩ = some (.int .i64 s.hints[k].kind) ∧ w'.cell? ⟨wr.heap.size, 1, none⟩ = some (.slice x s.hints[k].a.length kx) ∧ w'.cell? ⟨wr.heap.size, 2, none⟩ = some (.slice y s.hints[k].b.length ky) ∧ w'.cell? ⟨wr.heap.size, 3, none⟩ = some (.int .i64 s.hints[k].k)) (first | exact ⟨g0, g1, g2, g3⟩ | exact ⟨alloc_keep g0, alloc_keep g1, alloc_keep g2, alloc_keep g3⟩ | exact ⟨(n1.cell (by omega) ne _).trans g0, (n1.cell (by omega) ne _).trans g1, (n1.cell (by omega) ne _).trans g2, (n1.cell (by omega) ne _).trans g3⟩ | exact ⟨((n1.trans n2).cell (by omega) ne _).trans g0, ((n1.trans n2).cell (by omega) ne _).trans g1, ((n1.trans n2).cell (by omega) ne _).trans g2, ((n1.trans n2).cell (by omega) ne _).trans g3⟩ | exact ⟨(((n1.trans n2).trans n3).cell (by omega) ne _).trans g0, (((n1.trans n2).trans n3).cell (by omega) ne _).trans g1, (((n1.trans n2).trans n3).cell (by omega) ne _).trans g2, (((n1.trans n2).trans n3).cell (by omega) ne _).trans g3⟩ | exact ⟨((((n1.trans n2).trans n3).trans n4).cell (by omega) ne _).trans g0, ((((n1.trans n2).trans n3).trans n4).cell (by omega) ne _).trans g1, ((((n1.trans n2).trans n3).trans n4).cell (by omega) ne _).trans g2, ((((n1.trans n2).trans n3).trans n4).cell (by omega) ne _).trans g3⟩)
            (first
              | (refine step_append_lies ((w1.alloc (.cells #[.int .u8 s.hints[k].kind] 5)).drew) rfl _ _ 22 rfl (w.heap.size + 1) 5 u0 (.int .u8 0) 1 1 Try.underlying22 hi0 hz0 hz1 hz2 rfl (by decide) _ F.length (bv F) rfl (rowA _) _ _ _ (bv [s.hints[k].kind]) rfl rfl (fun j u hj => cell_one_new' w1 (.int .u8 s.hints[k].kind) 5 j u hj) (by intro u hu; obtain ⟨y, _, rfl⟩ := List.mem_map.1 hu; rfl) (by decide) (by unfold maxLen; omega) (by omega) (by simp; omega) _ rfl ?_; intro g cap y1 hown hgrow hloc hglt; go_loud (have n1 : Grew w1.drew y1 _ (.slice (some ⟨g, 0, none⟩) (F.length + 1) cap) := Grew.of_below (bA _) ⟨hgrow, hloc.elim (fun h => .inl (h.symm ▸ rfl)) (fun h => .inr ⟨g, rfl, by rw [h]; exact Nat.le_refl _⟩)⟩); go_loud (have r1 : y1.ownsRow (w.heap.size + 1) 5 1 (.slice (some ⟨g, 0, none⟩) (F.length + 1) cap) (F ++ [s.hints[k].kind]).length (bv (F ++ [s.hints[k].kind])) := by rw [List.length_append, bv_append]; exact hown); go_loud (have z1' := n1.grown.size; have e1 := n1.below row1 (Nat.le_refl (w.heap.size + 1)) (by omega); have L1 : (F ++ [s.hints[k].kind]).length ≤ 800000000001 := by simp; omega); clear hown hgrow hloc hglt)
              | (go_at_call 84; (with_reducible refine (l3lin_any (w.heap.size + 1) _ (F ++ [s.hints[k].kind]) o l h _ s.hints[k].a y1 r1 (by omega) (uA.keep e1 (by omega)) (by omega) HFA.out (by omega) (by omega)).mono ?_); rintro e y2 ⟨v2, rfl, n2, r2⟩; have z2' := n2.grown.size; have e2 := n2.below r1 (Nat.le_refl (w.heap.size + 1)) (by omega); have L2 : (F ++ [s.hints[k].kind] ++ linBytes s.hints[k].a).length ≤ 800000100001 := by rw [List.length_append, lA.out]; omega)
              | (go_at_call 84; (with_reducible refine (l3lin_any (w.heap.size + 1) v2 (F ++ [s.hints[k].kind] ++ linBytes s.hints[k].a) o l h _ s.hints[k].b y2 r2 (by omega) ((uB.keep e1 (by omega)).keep e2 (by omega)) (by omega) HFB.out (by omega) (by omega)).mono ?_); rintro e y3 ⟨v3, rfl, n3, r3⟩; have z3' := n3.grown.size; have e3 := n3.below r2 (Nat.le_refl (w.heap.size + 1)) (by omega); have L3 : (F ++ [s.hints[k].kind] ++ linBytes s.hints[k].a ++ linBytes s.hints[k].b).length ≤ 800000200001 := by rw [List.length_append, lB.out]; omega)
              | (go_at_call 83; (with_reducible refine (l3num_any (w.heap.size + 1) v3 (F ++ [s.hints[k].kind] ++ linBytes s.hints[k].a ++ linBytes s.hints[k].b) s.hints[k].k y3 r3 (by omega) (by omega) j0 j1).mono ?_); rintro e y4' ⟨v4', rfl, n4, r4⟩; have z4' := n4.grown.size))
          have G := ((n1.trans n2).trans n3).trans n4
          have f1 := G.below row1 (Nat.le_refl (w.heap.size + 1)) (by omega)
          have bz : Below w.heap.size w y4' := (be.trans (bd.mono (by omega))).trans (f1.mono (by omega))
          have kI := (f1.cell (p := ⟨w.heap.size, 0, none⟩) (Nat.lt_succ_self _)).trans mI
          have kO := (f1.cell (p := ⟨w.heap.size, 1, none⟩) (Nat.lt_succ_self _)).trans mO
          have kH := (f1.cell (p := ⟨w.heap.size, 2, none⟩) (Nat.lt_succ_self _)).trans mH
          have kC := (f1.cell (p := ⟨w.heap.size, 3, none⟩) (Nat.lt_succ_self _)).trans mC
          clear wu roww rowA bA g0 g1 g2 g3 n1 n2 n3 n4 G f1 row1 r1 r2 r3 e1 e2 e3 mI mO mH mC
          go_wp2_with fail
          go_roundw
          case rel => exact ⟨k + 1, by omega, by go_num, bz, by omega, kI, kO, kH, kC, by rw [HE.out, show F ++ hintBytes s.hints[k] = F ++ [s.hints[k].kind] ++ linBytes s.hints[k].a ++ linBytes s.hints[k].b ++ num4 s.hints[k].k from by simp [hintBytes, List.append_assoc]]; exact r4⟩
          case measure => simp [intOf]; omega
        · obtain rfl : k = s.hints.length := by omega
          rw [List.take_length] at row
          have L2 : (s.hints.flatMap hintBytes).length ≤ 3000 * 48100 := by have := flat_le (f := hintBytes) (M := 48100) (fun x hx => hintBytes_le (HI.out x hx)) s.hints.length; rw [List.take_length] at this; exact Nat.le_trans this (Nat.mul_le_mul_right _ (by omega))
          have L2T : (headBytes s ++ s.outs.flatMap linBytes ++ s.hints.flatMap hintBytes).length ≤ 200000000 := by rw [List.length_append]; omega
          go_wp2_with fail
          go_loopw [3, 7] (fun b i wr => ∃ k : Nat, k ≤ s.cons.length ∧ i = .int .i64 k ∧ Below w.heap.size w wr ∧ w.heap.size + 1 ≤ wr.heap.size ∧ wr.cell? ⟨w.heap.size, 0, none⟩ = some (.int .i64 s.ins) ∧ wr.cell? ⟨w.heap.size, 1, none⟩ = some (.slice ao s.outs.length ko) ∧ wr.cell? ⟨w.heap.size, 2, none⟩ = some (.slice ah s.hints.length kh) ∧ wr.cell? ⟨w.heap.size, 3, none⟩ = some (.slice ac s.cons.length kc) ∧ wr.ownsRow (w.heap.size + 1) 5 1 b (headBytes s ++ s.outs.flatMap linBytes ++ s.hints.flatMap hintBytes ++ (s.cons.take k).flatMap conBytes).length (bv (headBytes s ++ s.outs.flatMap linBytes ++ s.hints.flatMap hintBytes ++ (s.cons.take k).flatMap conBytes))) (fun _ i _ => s.cons.length - (intOf i).toNat)
          case atStart => exact ⟨0, Nat.zero_le _, rfl, be, by omega, cI, cO, cH, cC, by simpa using row⟩
          case round =>
            clear cI cO cH cC row
            obtain ⟨k, hk, rfl, be, zz, cI, cO, cH, cC, row⟩ := hrel
            by_cases hlt : k < s.cons.length
            · obtain ⟨b, off, va, vb, vc, rfl, l1, m1, c0, c1, c2, ta, tb, tc⟩ := (tC.keep be hw).at hlt
              obtain ⟨x, kx, rfl, lx, bx⟩ := ta.shape
              obtain ⟨y, ky, rfl, ly, by'⟩ := tb.shape
              obtain ⟨z, kz, rfl, lz, bz'⟩ := tc.shape
              have HW := CI.out _ (List.getElem_mem hlt)
              obtain ⟨wa, wb, wc⟩ := conW_parts HW
              obtain ⟨fa, na⟩ := linW_four wa
              obtain ⟨fb, nb⟩ := linW_four wb
              obtain ⟨fc, nc'⟩ := linW_four wc
              have LF := flat_le (f := conBytes) (M := 72100) (fun x hx => conBytes_le (CI.out x hx)) k
              have LM : s.cons.length * 72100 ≤ 4000 * 72100 := Nat.mul_le_mul_right _ (by omega)
              obtain ⟨F, hF⟩ : ∃ F, F = headBytes s ++ s.outs.flatMap linBytes ++ s.hints.flatMap hintBytes ++ (s.cons.take k).flatMap conBytes := ⟨_, rfl⟩
              rw [← hF] at row
              have HE : Hid (headBytes s ++ s.outs.flatMap linBytes ++ s.hints.flatMap hintBytes ++ (s.cons.take (k + 1)).flatMap conBytes = F ++ conBytes s.cons[k]) := Lib.hid (by rw [flat_step hlt, hF]; simp only [List.append_assoc])
              have hlen : F.length ≤ 800000000000 := by rw [hF, List.length_append]; omega
              clear hF LF
              have HFA := Lib.hid fa
              have HFB := Lib.hid fb
              have HFC := Lib.hid fc
              clear fa fb fc wa wb wc HW LM
              have bl : b < wr.heap.size := World.block_lt_of_cell? _ _ c0
              have dd : Below wr.heap.size wr wr.drew := (Below.refl _ _).drew
              have zd : wr.heap.size ≤ wr.drew.heap.size := Nat.le_refl _
              have ze : wr.drew.heap.size ≤ wr.heap.size := Nat.le_refl _
              have gI : wr.drew.cell? ⟨w.heap.size, 0, none⟩ = some (.int .i64 s.ins) := cell_keep dd cI
              have gO : wr.drew.cell? ⟨w.heap.size, 1, none⟩ = some (.slice ao s.outs.length ko) := cell_keep dd cO
              have gH : wr.drew.cell? ⟨w.heap.size, 2, none⟩ = some (.slice ah s.hints.length kh) := cell_keep dd cH
              have gC : wr.drew.cell? ⟨w.heap.size, 3, none⟩ = some (.slice (some ⟨b, off, none⟩) s.cons.length kc) := cell_keep dd cC
              have gt0 : wr.drew.cell? ⟨b, off + k * 3, none⟩ = some (.slice x s.cons[k].a.length kx) := cell_keep dd c0
              have gt1 : wr.drew.cell? ⟨b, off + k * 3 + 1, none⟩ = some (.slice y s.cons[k].b.length ky) := cell_keep dd c1
              have gt2 : wr.drew.cell? ⟨b, off + k * 3 + 2, none⟩ = some (.slice z s.cons[k].c.length kz) := cell_keep dd c2
              have row1 := row_keep row dd
              have ne := own_ne row1 (b := w.heap.size) (.inr (Nat.lt_succ_self _))
              have nb := own_ne row1 (b := b) (.inr (by omega))
              have uA := ta.keep dd (by omega)
              have uB := tb.keep dd (by omega)
              have uC := tc.keep dd (by omega)
              have lA := Lib.hid (linBytes_length s.cons[k].a)
              have lB := Lib.hid (linBytes_length s.cons[k].b)
              clear row cI cO cH c0 c1 c2
              go_wp2_with fail
              clear cC
              go_region_held3 (fun w' => w'.cell? ⟨w.heap.size, 0, none⟩ = some (.int .i64 s.ins) ∧ w'.cell? ⟨w.heap.size, 1, none⟩ = some (.slice ao s.outs.length ko) ∧ w'.cell? ⟨w.heap.size, 2, none⟩ = some (.slice ah s.hints.length kh) ∧ w'.cell? ⟨w.heap.size, 3, none⟩ = some (.slice (some ⟨b, off, none⟩) s.cons.length kc) ∧ w'.cell? ⟨b, off + k * 3, none⟩ = some (.slice x s.cons[k].a.length kx) ∧ w'.cell? ⟨b, off + k * 3 + 1, none⟩ = some (.slice y s.cons[k].b.length ky) ∧ w'.cell? ⟨b, off + k * 3 + 2, none⟩ = some (.slice z s.cons[k].c.length kz)) (first | exact ⟨gI, gO, gH, gC, gt0, gt1, gt2⟩ | exact ⟨(n1.cell (by omega) ne _).trans gI, (n1.cell (by omega) ne _).trans gO, (n1.cell (by omega) ne _).trans gH, (n1.cell (by omega) ne _).trans gC, (n1.cell (by omega) nb _).trans gt0, (n1.cell (by omega) nb _).trans gt1, (n1.cell (by omega) nb _).trans gt2⟩ | exact ⟨((n1.trans n2).cell (by omega) ne _).trans gI, ((n1.trans n2).cell (by omega) ne _).trans gO, ((n1.trans n2).cell (by omega) ne _).trans gH, ((n1.trans n2).cell (by omega) ne _).trans gC, ((n1.trans n2).cell (by omega) nb _).trans gt0, ((n1.trans n2).cell (by omega) nb _).trans gt1, ((n1.trans n2).cell (by omega) nb _).trans gt2⟩ | exact ⟨(((n1.trans n2).trans n3).cell (by omega) ne _).trans gI, (((n1.trans n2).trans n3).cell (by omega) ne _).trans gO, (((n1.trans n2).trans n3).cell (by omega) ne _).trans gH, (((n1.trans n2).trans n3).cell (by omega) ne _).trans gC, (((n1.trans n2).trans n3).cell (by omega) nb _).trans gt0, (((n1.trans n2).trans n3).cell (by omega) nb _).trans gt1, (((n1.trans n2).trans n3).cell (by omega) nb _).trans gt2⟩)
                (first
                  | (go_at_call 84; (with_reducible refine (l3lin_any (w.heap.size + 1) _ (F) o l h _ s.cons[k].a wr.drew row1 (by omega) uA (by omega) HFA.out (by omega) (by omega)).mono ?_); rintro e y1 ⟨v1, rfl, n1, r1⟩; have e1 := n1.below row1 (Nat.le_refl (w.heap.size + 1)) (by omega); have z1' := n1.grown.size; have L1 : (F ++ linBytes s.cons[k].a).length ≤ 800000100000 := by rw [List.length_append, lA.out]; omega)
                  | (go_at_call 84; (with_reducible refine (l3lin_any (w.heap.size + 1) v1 (F ++ linBytes s.cons[k].a) o l h _ s.cons[k].b y1 r1 (by omega) (uB.keep e1 (by omega)) (by omega) HFB.out (by omega) (by omega)).mono ?_); rintro e y2 ⟨v2, rfl, n2, r2⟩; have e2 := n2.below r1 (Nat.le_refl (w.heap.size + 1)) (by omega); have z2' := n2.grown.size; have L2 : (F ++ linBytes s.cons[k].a ++ linBytes s.cons[k].b).length ≤ 800000200000 := by rw [List.length_append, lB.out]; omega)
                  | (go_at_call 84; (with_reducible refine (l3lin_any (w.heap.size + 1) v2 (F ++ linBytes s.cons[k].a ++ linBytes s.cons[k].b) o l h _ s.cons[k].c y2 r2 (by omega) ((uC.keep e1 (by omega)).keep e2 (by omega)) (by omega) HFC.out (by omega) (by omega)).mono ?_); rintro e y3 ⟨v3, rfl, n3, r3⟩; have e3 := n3.below r2 (Nat.le_refl (w.heap.size + 1)) (by omega); have z3' := n3.grown.size))
              have G := (n1.trans n2).trans n3
              have f1 := G.below row1 (Nat.le_refl (w.heap.size + 1)) (by omega)
              have bz : Below w.heap.size w y3 := (be.trans (dd.mono (by omega))).trans (f1.mono (by omega))
              have kI := (G.cell (b := w.heap.size) (by omega) ne _).trans gI
              have kO := (G.cell (b := w.heap.size) (by omega) ne _).trans gO
              have kH := (G.cell (b := w.heap.size) (by omega) ne _).trans gH
              have kC := (G.cell (b := w.heap.size) (by omega) ne _).trans gC
              clear gI gO gH gC gt0 gt1 gt2 n1 n2 n3 G f1 row1 r1 r2 e1 e2 e3
              go_wp2_with fail
              go_roundw
              case rel => exact ⟨k + 1, by omega, by go_num, bz, by omega, kI, kO, kH, kC, by rw [HE.out, show F ++ conBytes s.cons[k] = F ++ linBytes s.cons[k].a ++ linBytes s.cons[k].b ++ linBytes s.cons[k].c from by simp [conBytes, List.append_assoc]]; exact r3⟩
              case measure => simp [intOf]; omega
            · obtain rfl : k = s.cons.length := by omega
              rw [List.take_length] at row
              have L3 : (s.cons.flatMap conBytes).length ≤ 4000 * 72100 := by have := flat_le (f := conBytes) (M := 72100) (fun x hx => conBytes_le (CI.out x hx)) s.cons.length; rw [List.take_length] at this; exact Nat.le_trans this (Nat.mul_le_mul_right _ (by omega))
              have fin := row_base row (Nat.le_succ w.heap.size)
              have fin2 : wr.ownsRow w.heap.size 5 1 _ (sysBytes s).length (bv (sysBytes s)) := fin
              clear row fin
              go_wp2_with fail
              go_ret
              exact ⟨_, rfl, be, fin2⟩
end Go.Proofs.Ytcenijdaacbgpaa.L

/- Systems as bytes: both functions, as the exact law asks. -/
namespace Go.Proofs.Ytcenijdaacbgpaa.L
open Go.RowKit Go.Proofs.Ytcenijdaacbgpaa.S
set_option linter.unusedVariables false
set_option linter.unusedSimpArgs false

theorem sysB_len (s : SysC) : (sysB s).length ≤ 536870912 := by
  unfold sysB
  split
  · rename_i hk
    obtain ⟨i1, i2, i3, i4, i5⟩ := limB_facts (sysOk_limB hk)
    have a := flat_le (f := linBytes) (M := 24100) (fun x hx => linBytes_le (sysOk_outs_in hk x hx)) s.outs.length
    have b := flat_le (f := hintBytes) (M := 48100) (fun x hx => hintBytes_le (sysOk_hints_fit hk x hx)) s.hints.length
    have c := flat_le (f := conBytes) (M := 72100) (fun x hx => conBytes_le (sysOk_cons_in hk x hx)) s.cons.length
    rw [List.take_length] at a b c
    have a2 : s.outs.length * 24100 ≤ 40 * 24100 := Nat.mul_le_mul_right _ i3
    have b2 : s.hints.length * 48100 ≤ 3000 * 48100 := Nat.mul_le_mul_right _ (by omega)
    have c2 : s.cons.length * 72100 ≤ 4000 * 72100 := Nat.mul_le_mul_right _ i5
    have d : (headBytes s).length = 16 := rfl
    unfold sysBytes
    rw [List.length_append, List.length_append, List.length_append]
    omega
  · simp

set_option maxRecDepth 100000 in
set_option maxHeartbeats 1600000 in
theorem sysB_spec (o l h vi vo vh vc) (s : SysC) (w : World) (t : SysR o l h w vi vo vh vc s) (hw : h ≤ w.heap.size) (nh : s.hints.length ≤ 1048576) (no : s.outs.length ≤ 1048576) (nc : s.cons.length ≤ 1048576) :
    Calls Try.prog 51 #[.agg #[vi, vo, vh, vc]] w fun e w' => ∃ u, e = .returned (.tuple #[u, .bool (sysOk s)]) ∧ Below w.heap.size w w' ∧ Byts true w.heap.size w'.heap.size w' u (sysB s) := by
  obtain ⟨ao, ko, ah, kh, ac, kc, rfl, rfl, rfl, rfl, lo, bo, lh, bh, lc, bc, fi⟩ := t.shape
  cases hk : sysOk s
  · have HR : Hid (sysB s = []) := Lib.hid (if_neg (by rw [hk]; simp))
    have HK := Lib.hid hk
    clear hk
    go_enter Try.func51, Try.ntmps51
    go_wp2_with fail
    refine name_call fun w1 hw1 => ?_
    have b1 : Below w.heap.size w w1 := by rw [hw1]; (repeat (with_reducible first | exact bR _ _ | assumption | refine bD ?_ | refine bN ?_ _ | refine bA ?_ _ | refine bS ?_ _))
    have z1 : w.heap.size + 1 ≤ w1.heap.size := by rw [hw1]; simp
    have e1 : Below w.heap.size w w1 := by rw [hw1]; (repeat (with_reducible first | exact bR _ _ | assumption | refine bD ?_ | refine bN ?_ _ | refine bA ?_ _ | refine bS ?_ _))
    have cI1 : w1.cell? ⟨w.heap.size, 0, none⟩ = some (.int .i64 s.ins) := by rw [hw1]; first | (simp; done) | go_simp
    have cO1 : w1.cell? ⟨w.heap.size, 1, none⟩ = some (.slice ao s.outs.length ko) := by rw [hw1]; first | (simp; done) | go_simp
    have cH1 : w1.cell? ⟨w.heap.size, 2, none⟩ = some (.slice ah s.hints.length kh) := by rw [hw1]; first | (simp; done) | go_simp
    have cC1 : w1.cell? ⟨w.heap.size, 3, none⟩ = some (.slice ac s.cons.length kc) := by rw [hw1]; first | (simp; done) | go_simp
    have tS1 := t.keep e1 (by omega)
    clear hw1
    refine (sysOk_specb o l h _ _ _ _ s _ tS1 (by omega) nh no nc _ HK.out).mono ?_; rintro e w2 ⟨rfl, f2⟩
    have b2 := b1.trans (f2.mono (by omega))
    have z2 := f2.size
    have cI2 := cell_keep f2 cI1
    have cO2 := cell_keep f2 cO1
    have cH2 := cell_keep f2 cH1
    have cC2 := cell_keep f2 cC1
    have tS2 := tS1.keep f2 (by omega)
    clear cI1 cO1 cH1 cC1 tS1
    go_wp2_with fail
    go_ret2
    exact ⟨_, rfl, b2, by rw [HR.out]; exact Byts.nil _ _ _ _⟩
  · have HR : Hid (sysB s = sysBytes s) := Lib.hid (if_pos hk)
    have HK := Lib.hid hk
    clear hk
    go_enter Try.func51, Try.ntmps51
    go_wp2_with fail
    refine name_call fun w1 hw1 => ?_
    have b1 : Below w.heap.size w w1 := by rw [hw1]; (repeat (with_reducible first | exact bR _ _ | assumption | refine bD ?_ | refine bN ?_ _ | refine bA ?_ _ | refine bS ?_ _))
    have z1 : w.heap.size + 1 ≤ w1.heap.size := by rw [hw1]; simp
    have e1 : Below w.heap.size w w1 := by rw [hw1]; (repeat (with_reducible first | exact bR _ _ | assumption | refine bD ?_ | refine bN ?_ _ | refine bA ?_ _ | refine bS ?_ _))
    have cI1 : w1.cell? ⟨w.heap.size, 0, none⟩ = some (.int .i64 s.ins) := by rw [hw1]; first | (simp; done) | go_simp
    have cO1 : w1.cell? ⟨w.heap.size, 1, none⟩ = some (.slice ao s.outs.length ko) := by rw [hw1]; first | (simp; done) | go_simp
    have cH1 : w1.cell? ⟨w.heap.size, 2, none⟩ = some (.slice ah s.hints.length kh) := by rw [hw1]; first | (simp; done) | go_simp
    have cC1 : w1.cell? ⟨w.heap.size, 3, none⟩ = some (.slice ac s.cons.length kc) := by rw [hw1]; first | (simp; done) | go_simp
    have tS1 := t.keep e1 (by omega)
    clear hw1
    refine (sysOk_specb o l h _ _ _ _ s _ tS1 (by omega) nh no nc _ HK.out).mono ?_; rintro e w2 ⟨rfl, f2⟩
    have b2 := b1.trans (f2.mono (by omega))
    have z2 := f2.size
    have cI2 := cell_keep f2 cI1
    have cO2 := cell_keep f2 cO1
    have cH2 := cell_keep f2 cH1
    have cC2 := cell_keep f2 cC1
    have tS2 := tS1.keep f2 (by omega)
    clear cI1 cO1 cH1 cC1 tS1
    have lcI2 : w.heap.size < w2.heap.size := World.block_lt_of_cell? _ _ cI2
    go_wp2_with fail
    refine name_call fun w3 hw3 => ?_
    have b3 : Below w.heap.size w w3 := by rw [hw3]; (repeat (with_reducible first | exact bR _ _ | assumption | refine bD ?_ | refine bN ?_ _ | refine bA ?_ _ | refine bS ?_ _))
    have z3 : w2.heap.size + 0 ≤ w3.heap.size := by rw [hw3]; simp
    have e3 : Below w2.heap.size w2 w3 := by rw [hw3]; (repeat (with_reducible first | exact bR _ _ | assumption | refine bD ?_ | refine bN ?_ _ | refine bA ?_ _ | refine bS ?_ _))
    have cI3 := cell_keep e3 cI2
    have cO3 := cell_keep e3 cO2
    have cH3 := cell_keep e3 cH2
    have cC3 := cell_keep e3 cC2
    have tS3 := tS2.keep e3 (by omega)
    clear hw3 lcI2 cI2 cO2 cH2 cC2 tS2
    refine (l3bytes_any o l h _ _ _ _ s _ tS3 (by omega) HK.out).mono ?_; rintro e w4 ⟨u1, rfl, f4, q4⟩
    have b4 := b3.trans (f4.mono (by omega))
    have z4 := f4.size
    have cI4 := cell_keep f4 cI3
    have cO4 := cell_keep f4 cO3
    have cH4 := cell_keep f4 cH3
    have cC4 := cell_keep f4 cC3
    have tS4 := tS3.keep f4 (by omega)
    clear cI3 cO3 cH3 cC3 tS3
    have fin := (Byts.own q4).mono (l' := w.heap.size) (h' := w4.heap.size) (by omega) (Nat.le_refl _)
    obtain ⟨g, cg, rfl, lg, bg⟩ := fin.shape
    clear q4
    go_wp2_with fail
    go_ret2
    exact ⟨_, rfl, b4, by rw [HR.out]; exact fin⟩
end Go.Proofs.Ytcenijdaacbgpaa.L

/- Systems that are alike, and ones that have grown: laws.same, laws.sameSys, laws.grown. -/
namespace Go.Proofs.Ytcenijdaacbgpaa.L
open Go.RowKit Go.Proofs.Ytcenijdaacbgpaa.S
set_option linter.unusedVariables false
set_option linter.unusedSimpArgs false

def strOf (xs : List Int) : ByteArray := xs.foldl (fun r n => r.push (UInt8.ofNat n.toNat)) ByteArray.empty
theorem conv_byts {o : Bool} {l h : Nat} {w : World} {v : Value} {xs : List Int} (t : Byts o l h w v xs) (hne : 0 < xs.length) :
    (convert 22 9 v).run Try.prog w = .ok (.string (strOf xs)) w := by
  obtain ⟨a, cap, rfl, h1, h2⟩ := t.shape
  obtain ⟨b, off, rfl, -, -, -⟩ := t.at hne
  rw [run_convert_bytes_string w 22 9 5 _ _ _ Try.underlying22 Try.underlying5 Try.underlying9]
  refine run_bytesToString w _ _ _ xs ?_
  have q := run_loadCells_list (P := Try.prog) (w := w) ⟨b, off, none⟩ (xs.map (Value.int .u8)) (fun j v hj => by
    rw [Go.WideShapes.add_plain]
    rw [List.getElem?_map] at hj
    cases hx : xs[j]? with
    | none => rw [hx] at hj; simp at hj
    | some x =>
      rw [hx] at hj
      simp at hj
      subst hj
      have hjl : j < xs.length := (List.getElem?_eq_some_iff.1 hx).1
      obtain ⟨b', off', e, -, -, c⟩ := t.at hjl
      simp only [Option.some.injEq, Addr.mk.injEq, and_true] at e
      obtain ⟨rfl, rfl⟩ := e
      rw [c]
      rw [List.getElem?_eq_getElem hjl] at hx
      simp only [Option.some.injEq] at hx
      rw [hx])
  rw [List.length_map] at q
  exact q
set_option maxRecDepth 100000 in
theorem same_yes {o1 o2 : Bool} {l1 h1 l2 h2 : Nat} {v u : Value} (xs : List Int) (w : World) (t1 : Byts o1 l1 h1 w v xs) (t2 : Byts o2 l2 h2 w u xs) (hne : 0 < xs.length) :
    Calls Try.prog 52 #[v, u] w fun e w' => e = .returned (.bool true) ∧ w' = w := by
  have c1 := conv_byts t1 hne
  have c2 := conv_byts t2 hne
  obtain ⟨a, ca, rfl, la, ba⟩ := t1.shape
  obtain ⟨b, cb, rfl, lb, bb⟩ := t2.shape
  generalize strOf xs = S at *
  go_enter Try.func52, Try.ntmps52
  go_wp2_with fail
  go_ret
  exact ⟨ret_bool (by simp), rfl⟩
theorem row_take {α : Type} {E : Shape α} {l h : Nat} {w : World} {a : Option Addr} {n0 cap : Nat} {xs : List α} (t : (Shape.row E).rep false l h w [.slice a n0 cap] xs) {n : Nat} (hn : n ≤ xs.length) : (Shape.row E).rep false l h w [.slice a n cap] (xs.take n) := by
  obtain ⟨a', cap', e, h1, h2, h4⟩ := t
  simp only [List.cons.injEq, Value.slice.injEq, and_true] at e
  obtain ⟨rfl, rfl, rfl⟩ := e
  have hl : (xs.take n).length = n := by rw [List.length_take]; omega
  refine ⟨a, cap, by rw [hl], by omega, h2, ?_⟩
  rcases h4 with h4 | ⟨b, off, ea, p1, p2, hf, C, L, H, hd, hc⟩
  · exact .inl (by rw [h4]; simp)
  · refine .inr ⟨b, off, ea, p1, p2, (fun q => by cases q), C, L, H, (fun q => by cases q), fun j x hj => ?_⟩
    have hx : xs[j]? = some x := by
      rw [List.getElem?_take] at hj
      split at hj
      · exact hj
      · cases hj
    obtain ⟨a1, a2, a3, a4⟩ := hc j x hx
    exact ⟨a1, a2, a3, a4⟩
theorem sysB_pos {s : SysC} (h : sysOk s = true) : 0 < (sysB s).length := by
  have d : (headBytes s).length = 16 := rfl
  unfold sysB
  rw [if_pos h]
  unfold sysBytes
  rw [List.length_append, List.length_append, List.length_append]
  omega
set_option maxRecDepth 100000 in
set_option maxHeartbeats 3200000 in
theorem sameSys_yes (o l h vi vo vh vc) (o' l' h' vi' vo' vh' vc') (s : SysC) (w : World) (t : SysR o l h w vi vo vh vc s) (hw : h ≤ w.heap.size) (t' : SysR o' l' h' w vi' vo' vh' vc' s) (hw' : h' ≤ w.heap.size) (ok : sysOk s = true) :
    Calls Try.prog 26 #[.agg #[vi, vo, vh, vc], .agg #[vi', vo', vh', vc']] w fun e w' => e = .returned (.bool true) ∧ Below w.heap.size w w' := by
  obtain ⟨ao, ko, ah, kh, ac, kc, rfl, rfl, rfl, rfl, -⟩ := id t.shape
  obtain ⟨bo, jo, bh, jh, bc, jc, rfl, rfl, rfl, rfl, -⟩ := id t'.shape
  obtain ⟨s0, s1, s2, s3, s4⟩ := limB_facts (sysOk_limB ok)
  have nh : s.hints.length ≤ 1048576 := by omega
  have no : s.outs.length ≤ 1048576 := by omega
  have nc : s.cons.length ≤ 1048576 := by omega
  have hpos := sysB_pos ok
  have hlen := sysB_len s
  have OK := Lib.hid ok
  have SB := Lib.hid fun (o l h vi vo vh vc) (w : World) (t : SysR o l h w vi vo vh vc s) (hw : h ≤ w.heap.size) => sysB_spec o l h vi vo vh vc s w t hw nh no nc
  rw [ok] at SB
  clear ok
  generalize sysB s = bs at *
  go_enter Try.func26, Try.ntmps26
  go_wp2_with fail
  refine name_call fun w1 hw1 => ?_
  have b1 : Below w.heap.size w w1 := by rw [hw1]; (repeat (with_reducible first | exact bR _ _ | assumption | refine bD ?_ | refine bN ?_ _ | refine bA ?_ _ | refine bS ?_ _))
  have z1 : w.heap.size + 2 ≤ w1.heap.size := by rw [hw1]; simp
  have d0 : w1.cell? ⟨w.heap.size + 1, 0, none⟩ = some (.int .i64 s.ins) := by rw [hw1]; first | (simp; done) | go_simp
  have d1 : w1.cell? ⟨w.heap.size + 1, 1, none⟩ = some (.slice bo s.outs.length jo) := by rw [hw1]; first | (simp; done) | go_simp
  have d2 : w1.cell? ⟨w.heap.size + 1, 2, none⟩ = some (.slice bh s.hints.length jh) := by rw [hw1]; first | (simp; done) | go_simp
  have d3 : w1.cell? ⟨w.heap.size + 1, 3, none⟩ = some (.slice bc s.cons.length jc) := by rw [hw1]; first | (simp; done) | go_simp
  clear hw1
  refine (SB.out o l h _ _ _ _ w1 (t.keep b1 hw) (by omega)).mono ?_; rintro e w2 ⟨u2, rfl, f2, n2⟩
  have z2 := f2.size
  have b2 := b1.trans (f2.mono (by omega))
  have e0 := cell_keep f2 d0
  have e1 := cell_keep f2 d1
  have e2 := cell_keep f2 d2
  have e3 := cell_keep f2 d3
  obtain ⟨ra, rc, rfl, rl, rb⟩ := n2.shape
  have l2 : w.heap.size + 1 < w2.heap.size := by omega
  clear d0 d1 d2 d3
  go_wp2_with fail
  refine (SB.out o' l' h' _ _ _ _ w2 (t'.keep b2 hw') (by omega)).mono ?_; rintro e w3 ⟨u3, rfl, f3, n3⟩
  have z3 := f3.size
  have b3 := b2.trans (f3.mono (by omega))
  have n23 := n2.keep f3 (Nat.le_refl _)
  obtain ⟨sa, sc, rfl, sl, sb⟩ := n3.shape
  have SM := Lib.hid (same_yes bs w3 n23 n3 hpos)
  clear e0 e1 e2 e3
  go_wp2_with fail
  refine (SM.out).mono ?_; rintro e w4 ⟨rfl, rfl⟩
  go_wp2_with fail
  go_ret
  exact ⟨rfl, b3⟩
theorem SysR.pre {h : Nat} {w : World} {vi vo : Value} {ah ac : Option Addr} {n0 m0 kh kc : Nat} {s r : SysC} (t : SysR false 0 h w vi vo (.slice ah n0 kh) (.slice ac m0 kc) r) (hi : r.ins = s.ins) (ho : r.outs = s.outs) {H : List HintC} {C : List ConC} (hh : r.hints = s.hints ++ H) (hc : r.cons = s.cons ++ C) :
    SysR false 0 h w vi vo (.slice ah s.hints.length kh) (.slice ac s.cons.length kc) s := by
  obtain ⟨tO, tH, tC⟩ := t.parts
  obtain ⟨e, f, -⟩ := t
  have tH' := row_take tH (n := s.hints.length) (by rw [hh]; simp)
  have tC' := row_take tC (n := s.cons.length) (by rw [hc]; simp)
  rw [hh, List.take_left] at tH'
  rw [hc, List.take_left] at tC'
  exact ⟨by rw [← hi]; exact e, by rw [← hi]; exact f, 0, h, 0, h, 0, h, Nat.le_refl _, Nat.le_refl _, Nat.le_refl _, Nat.le_refl _, Nat.le_refl _, Nat.le_refl _, (fun q => by cases q), by rw [← ho]; exact tO, tH', tC'⟩
set_option maxRecDepth 100000 in
set_option maxHeartbeats 3200000 in
theorem grown_yes (h vi vo vh vc) (h' vi' vo' vh' vc') (s r : SysC) (w : World) (t : SysR false 0 h w vi vo vh vc s) (hw : h ≤ w.heap.size) (t' : SysR false 0 h' w vi' vo' vh' vc' r) (hw' : h' ≤ w.heap.size) (ok : sysOk s = true) (okr : sysOk r = true)
    (hi : r.ins = s.ins) (ho : r.outs = s.outs) {H : List HintC} {C : List ConC} (hh : r.hints = s.hints ++ H) (hc : r.cons = s.cons ++ C) :
    Calls Try.prog 11 #[.agg #[vi, vo, vh, vc], .agg #[vi', vo', vh', vc']] w fun e w' => e = .returned (.bool true) ∧ Below w.heap.size w w' := by
  obtain ⟨ao, ko, ah, kh, ac, kc, rfl, rfl, rfl, rfl, la, lb, lc, ld, le', lf, lg⟩ := id t.shape
  obtain ⟨bo, jo, bh, jh, bc, jc, rfl, rfl, rfl, rfl, ma, mb, mc, md, me, mf, mg⟩ := id t'.shape
  obtain ⟨s0, s1, s2, s3, s4⟩ := limB_facts (sysOk_limB ok)
  obtain ⟨r0, r1, r2, r3, r4⟩ := limB_facts (sysOk_limB okr)
  have nh : r.hints.length ≤ 1048576 := by omega
  have no : r.outs.length ≤ 1048576 := by omega
  have nc : r.cons.length ≤ 1048576 := by omega
  have hl1 : s.hints.length ≤ r.hints.length := by rw [hh]; simp
  have hl2 : s.cons.length ≤ r.cons.length := by rw [hc]; simp
  have hne : (r.ins != s.ins) = false := by simp [hi]
  have g1 : decide (r.hints.length < s.hints.length) = false := decide_eq_false (by omega)
  have g2 : decide (r.cons.length < s.cons.length) = false := decide_eq_false (by omega)
  have PRE := Lib.hid fun (w1 : World) (b1 : Below w.heap.size w w1) => SysR.pre (t'.keep b1 hw') hi ho hh hc
  have HI := Lib.hid hi
  have HO := Lib.hid ho
  clear hi ho hh hc
  go_enter Try.func11, Try.ntmps11
  go_wp2_with fail
  refine name_call fun w1 hw1 => ?_
  have b1 : Below w.heap.size w w1 := by rw [hw1]; (repeat (with_reducible first | exact bR _ _ | assumption | refine bD ?_ | refine bN ?_ _ | refine bA ?_ _ | refine bS ?_ _))
  have z1 : w.heap.size + 2 ≤ w1.heap.size := by rw [hw1]; simp
  have c0 : w1.cell? ⟨w.heap.size, 0, none⟩ = some (.int .i64 s.ins) := by rw [hw1]; first | (simp; done) | go_simp
  have c1 : w1.cell? ⟨w.heap.size, 1, none⟩ = some (.slice ao s.outs.length ko) := by rw [hw1]; first | (simp; done) | go_simp
  have c2 : w1.cell? ⟨w.heap.size, 2, none⟩ = some (.slice ah s.hints.length kh) := by rw [hw1]; first | (simp; done) | go_simp
  have c3 : w1.cell? ⟨w.heap.size, 3, none⟩ = some (.slice ac s.cons.length kc) := by rw [hw1]; first | (simp; done) | go_simp
  have d0 : w1.cell? ⟨w.heap.size + 1, 0, none⟩ = some (.int .i64 r.ins) := by rw [hw1]; first | (simp; done) | go_simp
  have d1 : w1.cell? ⟨w.heap.size + 1, 1, none⟩ = some (.slice bo r.outs.length jo) := by rw [hw1]; first | (simp; done) | go_simp
  have d2 : w1.cell? ⟨w.heap.size + 1, 2, none⟩ = some (.slice bh r.hints.length jh) := by rw [hw1]; first | (simp; done) | go_simp
  have d3 : w1.cell? ⟨w.heap.size + 1, 3, none⟩ = some (.slice bc r.cons.length jc) := by rw [hw1]; first | (simp; done) | go_simp
  clear hw1
  refine (sysOk_specb false 0 h' _ _ _ _ r w1 (t'.keep b1 hw') (by omega) nh no nc true okr).mono ?_; rintro e w2 ⟨rfl, f2⟩
  have z2 := f2.size
  have b2 := b1.trans (f2.mono (by omega))
  have l2 : w.heap.size + 1 < w2.heap.size := by omega
  have l2' : w.heap.size < w2.heap.size := by omega
  have c0' := cell_keep f2 c0
  have c1' := cell_keep f2 c1
  have c2' := cell_keep f2 c2
  have c3' := cell_keep f2 c3
  have d0' := cell_keep f2 d0
  have d1' := cell_keep f2 d1
  have d2' := cell_keep f2 d2
  have d3' := cell_keep f2 d3
  clear c0 c1 c2 c3 d0 d1 d2 d3
  go_wp2_with fail
  refine name_call fun w3 hw3 => ?_
  have b3 : Below w.heap.size w w3 := by rw [hw3]; exact b2.alloc (by omega) _
  have z3 := b3.size
  clear hw3
  refine (sameSys_yes false 0 h' _ _ _ _ false 0 h _ _ _ _ s w3 (PRE.out w3 b3) (by omega) (t.keep b3 hw) (by omega) ok).mono ?_; rintro e w4 ⟨rfl, f4⟩
  go_wp2_with fail
  go_ret
  exact ⟨rfl, b3.trans (f4.mono z3)⟩
end Go.Proofs.Ytcenijdaacbgpaa.L
