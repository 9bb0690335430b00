/- Systems that are alike, and ones that have grown: laws.same, laws.sameSys, laws.grown. -/
import Derived.Test.YtghjcedhoeoiiaaSysB2
import Derived.Test.YtghjcedhoeoiiaaNums2
import Derived.Laws.BytesString
import Derived.Laws.Cells
namespace Go.Proofs.Ytghjcedhoeoiiaa.L
open Go.RowKit Go.Proofs.Ytghjcedhoeoiiaa.S
set_option linter.unusedVariables false
set_option linter.unusedSimpArgs false

def strOf (xs : List Int) : ByteArray := xs.foldl (fun r n => r.push (UInt8.ofNat n.toNat)) ByteArray.empty
theorem conv_byts {o : Bool} {l h : Nat} {w : World} {v : Value} {xs : List Int} (t : Byts o l h w v xs) (hne : 0 < xs.length) :
    (convert 22 9 v).run Try.prog w = .ok (.string (strOf xs)) w := by
  obtain ⟨a, cap, rfl, h1, h2⟩ := t.shape
  obtain ⟨b, off, rfl, -, -, -⟩ := t.at hne
  rw [run_convert_bytes_string w 22 9 5 _ _ _ Try.underlying22 Try.underlying5 Try.underlying9]
  refine run_bytesToString w _ _ _ xs ?_
  have q := run_loadCells_list (P := Try.prog) (w := w) ⟨b, off, none⟩ (xs.map (Value.int .u8)) (fun j v hj => by
    rw [Go.WideShapes.add_plain]
    rw [List.getElem?_map] at hj
    cases hx : xs[j]? with
    | none => rw [hx] at hj; simp at hj
    | some x =>
      rw [hx] at hj
      simp at hj
      subst hj
      have hjl : j < xs.length := (List.getElem?_eq_some_iff.1 hx).1
      obtain ⟨b', off', e, -, -, c⟩ := t.at hjl
      simp only [Option.some.injEq, Addr.mk.injEq, and_true] at e
      obtain ⟨rfl, rfl⟩ := e
      rw [c]
      rw [List.getElem?_eq_getElem hjl] at hx
      simp only [Option.some.injEq] at hx
      rw [hx])
  rw [List.length_map] at q
  exact q
set_option maxRecDepth 100000 in
theorem same_yes {o1 o2 : Bool} {l1 h1 l2 h2 : Nat} {v u : Value} (xs : List Int) (w : World) (t1 : Byts o1 l1 h1 w v xs) (t2 : Byts o2 l2 h2 w u xs) (hne : 0 < xs.length) :
    Calls Try.prog 68 #[v, u] w fun e w' => e = .returned (.bool true) ∧ w' = w := by
  have c1 := conv_byts t1 hne
  have c2 := conv_byts t2 hne
  obtain ⟨a, ca, rfl, la, ba⟩ := t1.shape
  obtain ⟨b, cb, rfl, lb, bb⟩ := t2.shape
  generalize strOf xs = S at *
  go_enter Try.func68, Try.ntmps68
  go_wp2_with fail
  go_ret
  exact ⟨ret_bool (by simp), rfl⟩
theorem row_take {α : Type} {E : Shape α} {l h : Nat} {w : World} {a : Option Addr} {n0 cap : Nat} {xs : List α} (t : (Shape.row E).rep false l h w [.slice a n0 cap] xs) {n : Nat} (hn : n ≤ xs.length) : (Shape.row E).rep false l h w [.slice a n cap] (xs.take n) := by
  obtain ⟨a', cap', e, h1, h2, h4⟩ := t
  simp only [List.cons.injEq, Value.slice.injEq, and_true] at e
  obtain ⟨rfl, rfl, rfl⟩ := e
  have hl : (xs.take n).length = n := by rw [List.length_take]; omega
  refine ⟨a, cap, by rw [hl], by omega, h2, ?_⟩
  rcases h4 with h4 | ⟨b, off, ea, p1, p2, hf, C, L, H, hd, hc⟩
  · exact .inl (by rw [h4]; simp)
  · refine .inr ⟨b, off, ea, p1, p2, (fun q => by cases q), C, L, H, (fun q => by cases q), fun j x hj => ?_⟩
    have hx : xs[j]? = some x := by
      rw [List.getElem?_take] at hj
      split at hj
      · exact hj
      · cases hj
    obtain ⟨a1, a2, a3, a4⟩ := hc j x hx
    exact ⟨a1, a2, a3, a4⟩
theorem sysB_pos {s : SysC} (h : sysOk s = true) : 0 < (sysB s).length := by
  have d : (headBytes s).length = 16 := rfl
  unfold sysB
  rw [if_pos h]
  unfold sysBytes
  rw [List.length_append, List.length_append, List.length_append]
  omega
set_option maxRecDepth 100000 in
set_option maxHeartbeats 3200000 in
theorem sameSys_yes (o l h vi vo vh vc) (o' l' h' vi' vo' vh' vc') (s : SysC) (w : World) (t : SysR o l h w vi vo vh vc s) (hw : h ≤ w.heap.size) (t' : SysR o' l' h' w vi' vo' vh' vc' s) (hw' : h' ≤ w.heap.size) (ok : sysOk s = true) :
    Calls Try.prog 35 #[.agg #[vi, vo, vh, vc], .agg #[vi', vo', vh', vc']] w fun e w' => e = .returned (.bool true) ∧ Below w.heap.size w w' := by
  obtain ⟨ao, ko, ah, kh, ac, kc, rfl, rfl, rfl, rfl, -⟩ := id t.shape
  obtain ⟨bo, jo, bh, jh, bc, jc, rfl, rfl, rfl, rfl, -⟩ := id t'.shape
  obtain ⟨s0, s1, s2, s3, s4⟩ := limB_facts (sysOk_limB ok)
  have nh : s.hints.length ≤ 1048576 := by omega
  have no : s.outs.length ≤ 1048576 := by omega
  have nc : s.cons.length ≤ 1048576 := by omega
  have hpos := sysB_pos ok
  have hlen := sysB_len s
  have OK := Lib.hid ok
  have SB := Lib.hid fun (o l h vi vo vh vc) (w : World) (t : SysR o l h w vi vo vh vc s) (hw : h ≤ w.heap.size) => sysB_spec o l h vi vo vh vc s w t hw nh no nc
  rw [ok] at SB
  clear ok
  generalize sysB s = bs at *
  go_enter Try.func35, Try.ntmps35
  go_wp2_with fail
  refine name_call fun w1 hw1 => ?_
  have b1 : Below w.heap.size w w1 := by rw [hw1]; (repeat (with_reducible first | exact bR _ _ | assumption | refine bD ?_ | refine bN ?_ _ | refine bA ?_ _ | refine bS ?_ _))
  have z1 : w.heap.size + 2 ≤ w1.heap.size := by rw [hw1]; simp
  have d0 : w1.cell? ⟨w.heap.size + 1, 0, none⟩ = some (.int .i64 s.ins) := by rw [hw1]; first | (simp; done) | go_simp
  have d1 : w1.cell? ⟨w.heap.size + 1, 1, none⟩ = some (.slice bo s.outs.length jo) := by rw [hw1]; first | (simp; done) | go_simp
  have d2 : w1.cell? ⟨w.heap.size + 1, 2, none⟩ = some (.slice bh s.hints.length jh) := by rw [hw1]; first | (simp; done) | go_simp
  have d3 : w1.cell? ⟨w.heap.size + 1, 3, none⟩ = some (.slice bc s.cons.length jc) := by rw [hw1]; first | (simp; done) | go_simp
  clear hw1
  refine (SB.out o l h _ _ _ _ w1 (t.keep b1 hw) (by omega)).mono ?_; rintro e w2 ⟨u2, rfl, f2, n2⟩
  have z2 := f2.size
  have b2 := b1.trans (f2.mono (by omega))
  have e0 := cell_keep f2 d0
  have e1 := cell_keep f2 d1
  have e2 := cell_keep f2 d2
  have e3 := cell_keep f2 d3
  obtain ⟨ra, rc, rfl, rl, rb⟩ := n2.shape
  have l2 : w.heap.size + 1 < w2.heap.size := by omega
  clear d0 d1 d2 d3
  go_wp2_with fail
  refine (SB.out o' l' h' _ _ _ _ w2 (t'.keep b2 hw') (by omega)).mono ?_; rintro e w3 ⟨u3, rfl, f3, n3⟩
  have z3 := f3.size
  have b3 := b2.trans (f3.mono (by omega))
  have n23 := n2.keep f3 (Nat.le_refl _)
  obtain ⟨sa, sc, rfl, sl, sb⟩ := n3.shape
  have SM := Lib.hid (same_yes bs w3 n23 n3 hpos)
  clear e0 e1 e2 e3
  go_wp2_with fail
  refine (SM.out).mono ?_; rintro e w4 ⟨rfl, rfl⟩
  go_wp2_with fail
  go_ret
  exact ⟨rfl, b3⟩
theorem SysR.pre {h : Nat} {w : World} {vi vo : Value} {ah ac : Option Addr} {n0 m0 kh kc : Nat} {s r : SysC} (t : SysR false 0 h w vi vo (.slice ah n0 kh) (.slice ac m0 kc) r) (hi : r.ins = s.ins) (ho : r.outs = s.outs) {H : List HintC} {C : List ConC} (hh : r.hints = s.hints ++ H) (hc : r.cons = s.cons ++ C) :
    SysR false 0 h w vi vo (.slice ah s.hints.length kh) (.slice ac s.cons.length kc) s := by
  obtain ⟨tO, tH, tC⟩ := t.parts
  obtain ⟨e, f, -⟩ := t
  have tH' := row_take tH (n := s.hints.length) (by rw [hh]; simp)
  have tC' := row_take tC (n := s.cons.length) (by rw [hc]; simp)
  rw [hh, List.take_left] at tH'
  rw [hc, List.take_left] at tC'
  exact ⟨by rw [← hi]; exact e, by rw [← hi]; exact f, 0, h, 0, h, 0, h, Nat.le_refl _, Nat.le_refl _, Nat.le_refl _, Nat.le_refl _, Nat.le_refl _, Nat.le_refl _, (fun q => by cases q), by rw [← ho]; exact tO, tH', tC'⟩
set_option maxRecDepth 100000 in
set_option maxHeartbeats 3200000 in
theorem grown_yes (h vi vo vh vc) (h' vi' vo' vh' vc') (s r : SysC) (w : World) (t : SysR false 0 h w vi vo vh vc s) (hw : h ≤ w.heap.size) (t' : SysR false 0 h' w vi' vo' vh' vc' r) (hw' : h' ≤ w.heap.size) (ok : sysOk s = true) (okr : sysOk r = true)
    (hi : r.ins = s.ins) (ho : r.outs = s.outs) {H : List HintC} {C : List ConC} (hh : r.hints = s.hints ++ H) (hc : r.cons = s.cons ++ C) :
    Calls Try.prog 14 #[.agg #[vi, vo, vh, vc], .agg #[vi', vo', vh', vc']] w fun e w' => e = .returned (.bool true) ∧ Below w.heap.size w w' := by
  obtain ⟨ao, ko, ah, kh, ac, kc, rfl, rfl, rfl, rfl, la, lb, lc, ld, le', lf, lg⟩ := id t.shape
  obtain ⟨bo, jo, bh, jh, bc, jc, rfl, rfl, rfl, rfl, ma, mb, mc, md, me, mf, mg⟩ := id t'.shape
  obtain ⟨s0, s1, s2, s3, s4⟩ := limB_facts (sysOk_limB ok)
  obtain ⟨r0, r1, r2, r3, r4⟩ := limB_facts (sysOk_limB okr)
  have nh : r.hints.length ≤ 1048576 := by omega
  have no : r.outs.length ≤ 1048576 := by omega
  have nc : r.cons.length ≤ 1048576 := by omega
  have hl1 : s.hints.length ≤ r.hints.length := by rw [hh]; simp
  have hl2 : s.cons.length ≤ r.cons.length := by rw [hc]; simp
  have hne : (r.ins != s.ins) = false := by simp [hi]
  have g1 : decide (r.hints.length < s.hints.length) = false := decide_eq_false (by omega)
  have g2 : decide (r.cons.length < s.cons.length) = false := decide_eq_false (by omega)
  have PRE := Lib.hid fun (w1 : World) (b1 : Below w.heap.size w w1) => SysR.pre (t'.keep b1 hw') hi ho hh hc
  have HI := Lib.hid hi
  have HO := Lib.hid ho
  clear hi ho hh hc
  go_enter Try.func14, Try.ntmps14
  go_wp2_with fail
  refine name_call fun w1 hw1 => ?_
  have b1 : Below w.heap.size w w1 := by rw [hw1]; (repeat (with_reducible first | exact bR _ _ | assumption | refine bD ?_ | refine bN ?_ _ | refine bA ?_ _ | refine bS ?_ _))
  have z1 : w.heap.size + 2 ≤ w1.heap.size := by rw [hw1]; simp
  have c0 : w1.cell? ⟨w.heap.size, 0, none⟩ = some (.int .i64 s.ins) := by rw [hw1]; first | (simp; done) | go_simp
  have c1 : w1.cell? ⟨w.heap.size, 1, none⟩ = some (.slice ao s.outs.length ko) := by rw [hw1]; first | (simp; done) | go_simp
  have c2 : w1.cell? ⟨w.heap.size, 2, none⟩ = some (.slice ah s.hints.length kh) := by rw [hw1]; first | (simp; done) | go_simp
  have c3 : w1.cell? ⟨w.heap.size, 3, none⟩ = some (.slice ac s.cons.length kc) := by rw [hw1]; first | (simp; done) | go_simp
  have d0 : w1.cell? ⟨w.heap.size + 1, 0, none⟩ = some (.int .i64 r.ins) := by rw [hw1]; first | (simp; done) | go_simp
  have d1 : w1.cell? ⟨w.heap.size + 1, 1, none⟩ = some (.slice bo r.outs.length jo) := by rw [hw1]; first | (simp; done) | go_simp
  have d2 : w1.cell? ⟨w.heap.size + 1, 2, none⟩ = some (.slice bh r.hints.length jh) := by rw [hw1]; first | (simp; done) | go_simp
  have d3 : w1.cell? ⟨w.heap.size + 1, 3, none⟩ = some (.slice bc r.cons.length jc) := by rw [hw1]; first | (simp; done) | go_simp
  clear hw1
  refine (sysOk_specb false 0 h' _ _ _ _ r w1 (t'.keep b1 hw') (by omega) nh no nc true okr).mono ?_; rintro e w2 ⟨rfl, f2⟩
  have z2 := f2.size
  have b2 := b1.trans (f2.mono (by omega))
  have l2 : w.heap.size + 1 < w2.heap.size := by omega
  have l2' : w.heap.size < w2.heap.size := by omega
  have c0' := cell_keep f2 c0
  have c1' := cell_keep f2 c1
  have c2' := cell_keep f2 c2
  have c3' := cell_keep f2 c3
  have d0' := cell_keep f2 d0
  have d1' := cell_keep f2 d1
  have d2' := cell_keep f2 d2
  have d3' := cell_keep f2 d3
  clear c0 c1 c2 c3 d0 d1 d2 d3
  go_wp2_with fail
  refine name_call fun w3 hw3 => ?_
  have b3 : Below w.heap.size w w3 := by rw [hw3]; exact b2.alloc (by omega) _
  have z3 := b3.size
  clear hw3
  refine (sameSys_yes false 0 h' _ _ _ _ false 0 h _ _ _ _ s w3 (PRE.out w3 b3) (by omega) (t.keep b3 hw) (by omega) ok).mono ?_; rintro e w4 ⟨rfl, f4⟩
  go_wp2_with fail
  go_ret
  exact ⟨rfl, b3.trans (f4.mono z3)⟩
end Go.Proofs.Ytghjcedhoeoiiaa.L
