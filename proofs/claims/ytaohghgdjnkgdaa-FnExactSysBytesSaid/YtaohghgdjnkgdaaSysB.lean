/- Systems as bytes: the program's function. -/
import Derived.Test.YtaohghgdjnkgdaaBytes3
import Derived.Test.YtaohghgdjnkgdaaCheck
namespace Go.Proofs.Ytaohghgdjnkgdaa.L
open Go.RowKit Go.Proofs.Ytaohghgdjnkgdaa.S
set_option linter.unusedVariables false
set_option linter.unusedSimpArgs false

theorem row_base {w : World} {base base' : Nat} {e : TypeId} {size n : Nat} {v : Value} {xs : List Value} (h : w.ownsRow base e size v n xs) (hb : base' ≤ base) : w.ownsRow base' e size v n xs :=
  ⟨h.1, h.2.imp id (fun ⟨g, cap, cur, e1, e2, e3⟩ => ⟨g, cap, cur, e1, by omega, e3⟩)⟩
theorem flat_step {α : Type} {f : α → List Int} {xs : List α} {k : Nat} (hk : k < xs.length) : (xs.take (k + 1)).flatMap f = (xs.take k).flatMap f ++ f xs[k] := by
  rw [take_step (List.getElem?_eq_getElem hk), List.flatMap_append]; simp
theorem flat_le {α : Type} {f : α → List Int} {M : Nat} : ∀ {xs : List α} (h : ∀ x ∈ xs, (f x).length ≤ M) (k : Nat), ((xs.take k).flatMap f).length ≤ xs.length * M
  | [], _, k => by simp
  | x :: r, h, 0 => by simp
  | x :: r, h, k + 1 => by
    have := flat_le (fun y hy => h y (List.mem_cons_of_mem _ hy)) k (xs := r)
    have h1 := h x (List.mem_cons_self)
    rw [List.take_succ_cons, List.flatMap_cons, List.length_append, List.length_cons, Nat.add_mul]; omega
def headBytes (s : SysC) : List Int := num4 s.ins ++ num4 (s.outs.length : Int) ++ num4 (s.hints.length : Int) ++ num4 (s.cons.length : Int)
def sysBytes (s : SysC) : List Int := headBytes s ++ s.outs.flatMap linBytes ++ s.hints.flatMap hintBytes ++ s.cons.flatMap conBytes
def sysB (s : SysC) : List Int := if sysOk s = true then sysBytes s else []
theorem linW_four {n : Int} {ts : List T} (h : linW n ts = true) : Four ts ∧ ts.length ≤ 3000 := by
  unfold linW at h
  rw [Bool.and_eq_true] at h
  refine ⟨fun t ht => ?_, linOk_length h.1⟩
  obtain ⟨i, hi⟩ := List.mem_iff_getElem?.1 ht
  have := linOk_at h.1 hi
  omega
theorem hintsB_in : ∀ {hs : List HintC} {n : Int}, hintsB n hs = true → ∀ x ∈ hs, ∃ m, hintW m x = true
  | [], _, _, x, hx => by cases hx
  | y :: r, n, h, x, hx => by
    rw [hintsB, Bool.and_eq_true] at h
    rcases List.mem_cons.1 hx with rfl | hx
    · exact ⟨n, h.1⟩
    · exact hintsB_in h.2 x hx
structure HintFit (x : HintC) : Prop where
  fa : Four x.a
  fb : Four x.b
  na : x.a.length ≤ 3000
  nb : x.b.length ≤ 3000
  k0 : 0 ≤ x.kind
  k1 : x.kind ≤ 255
  j0 : 0 ≤ x.k
  j1 : x.k ≤ 4294967295
theorem hintW_fit {n : Int} {x : HintC} (h : hintW n x = true) : HintFit x := by
  unfold hintW at h
  rw [Bool.and_eq_true, Bool.and_eq_true] at h
  obtain ⟨f1, n1⟩ := linW_four h.1
  obtain ⟨f2, n2⟩ := linW_four h.2.1
  have hk := of_decide_eq_true h.2.2
  exact ⟨f1, f2, n1, n2, by omega, by omega, by omega, by omega⟩
theorem sysOk_hints_fit {s : SysC} (h : sysOk s = true) : ∀ x ∈ s.hints, HintFit x := by
  have h2 : hintsB (1 + s.ins) s.hints = true := by
    cases hc : hintsB (1 + s.ins) s.hints
    · rw [sysOk_hints hc] at h; cases h
    · rfl
  intro x hx
  obtain ⟨m, hm⟩ := hintsB_in h2 x hx
  exact hintW_fit hm
theorem hintBytes_le {x : HintC} (h : HintFit x) : (hintBytes x).length ≤ 48100 := by
  have := h.na; have := h.nb
  simp only [hintBytes, List.length_append, linBytes_length, num4_length, List.length_singleton]; omega
theorem conBytes_le {n : Int} {c : ConC} (h : conW n c = true) : (conBytes c).length ≤ 72100 := by
  obtain ⟨a, b, d⟩ := conW_parts h
  have := (linW_four a).2; have := (linW_four b).2; have := (linW_four d).2
  simp only [conBytes, List.length_append, linBytes_length]; omega
theorem linBytes_le {n : Int} {ts : List T} (h : linW n ts = true) : (linBytes ts).length ≤ 24100 := by
  have := (linW_four h).2
  rw [linBytes_length]; omega

set_option maxRecDepth 100000 in
set_option maxHeartbeats 6400000 in
theorem sysBytes_impl (o l h vi vo vh vc) (s : SysC) (w : World) (t : SysR o l h w vi vo vh vc s) (hw : h ≤ w.heap.size) (nh : s.hints.length ≤ 1048576) (no : s.outs.length ≤ 1048576) (nc : s.cons.length ≤ 1048576) :
    Calls Try.prog 37 #[.agg #[vi, vo, vh, vc]] w fun e w' => ∃ u, e = .returned (.tuple #[u, .bool (sysOk s)]) ∧ Below w.heap.size w w' ∧ w'.ownsRow w.heap.size 5 1 u (sysB s).length (bv (sysB s)) := by
  obtain ⟨tO, tH, tC⟩ := t.parts
  obtain ⟨ao, ko, ah, kh, ac, kc, rfl, rfl, rfl, rfl, lo, bo, lh, bh, lc, bc, fi⟩ := t.shape
  cases hk : sysOk s
  · have HR : Hid (sysB s = []) := Lib.hid (if_neg (by rw [hk]; simp))
    have HK := Lib.hid hk
    clear hk
    go_enter Try.func37, Try.ntmps37
    go_wp2_with fail
    refine name_call fun w1 hw1 => ?_
    have b1 : Below w.heap.size w w1 := by rw [hw1]; (repeat (first | with_reducible exact Below.refl _ _ | with_reducible assumption | with_reducible refine Below.drew ?_ | with_reducible refine bdrewN ?_ _ | ((with_reducible refine balloc ?_ ?_ _); (focus (first | with_reducible exact Nat.le_refl _ | (simp; done) | omega | (simp; omega) | exact Nat.le_refl _))) | ((with_reducible refine bset ?_ ?_ _); (focus (first | with_reducible exact Nat.le_refl _ | (simp; done) | omega | (simp; omega) | exact Nat.le_refl _)))))
    have z1 : w.heap.size + 1 ≤ w1.heap.size := by rw [hw1]; simp
    have e1 : Below w.heap.size w w1 := by rw [hw1]; (repeat (first | with_reducible exact Below.refl _ _ | with_reducible assumption | with_reducible refine Below.drew ?_ | with_reducible refine bdrewN ?_ _ | ((with_reducible refine balloc ?_ ?_ _); (focus (first | with_reducible exact Nat.le_refl _ | (simp; done) | omega | (simp; omega) | exact Nat.le_refl _))) | ((with_reducible refine bset ?_ ?_ _); (focus (first | with_reducible exact Nat.le_refl _ | (simp; done) | omega | (simp; omega) | exact Nat.le_refl _)))))
    have cI1 : w1.cell? ⟨w.heap.size, 0, none⟩ = some (.int .i64 s.ins) := by rw [hw1]; first | (simp; done) | go_simp
    have cO1 : w1.cell? ⟨w.heap.size, 1, none⟩ = some (.slice ao s.outs.length ko) := by rw [hw1]; first | (simp; done) | go_simp
    have cH1 : w1.cell? ⟨w.heap.size, 2, none⟩ = some (.slice ah s.hints.length kh) := by rw [hw1]; first | (simp; done) | go_simp
    have cC1 : w1.cell? ⟨w.heap.size, 3, none⟩ = some (.slice ac s.cons.length kc) := by rw [hw1]; first | (simp; done) | go_simp
    have tS1 := t.keep e1 (by omega)
    clear hw1
    refine (sysOk_implb o l h _ _ _ _ s _ tS1 (by omega) nh no nc _ HK.out).mono ?_; rintro e w2 ⟨rfl, f2⟩
    have b2 := b1.trans (f2.mono (by omega))
    have z2 := f2.size
    have cI2 := cell_keep f2 cI1
    have cO2 := cell_keep f2 cO1
    have cH2 := cell_keep f2 cH1
    have cC2 := cell_keep f2 cC1
    have tS2 := tS1.keep f2 (by omega)
    clear cI1 cO1 cH1 cC1 tS1
    go_wp2_with fail
    go_ret2
    exact ⟨_, rfl, b2, by rw [HR.out]; exact World.ownsRow_nil _ _ _ _⟩
  have HR : Hid (sysB s = sysBytes s) := Lib.hid (if_pos hk)
  obtain ⟨i1, i2, i3, i4, i5⟩ := limB_facts (sysOk_limB hk)
  have OI := Lib.hid (sysOk_outs_in hk)
  have HI := Lib.hid (sysOk_hints_fit hk)
  have CI := Lib.hid (sysOk_cons_in hk)
  have HK := Lib.hid hk
  clear hk
  go_enter Try.func37, Try.ntmps37
  go_wp2_with fail
  refine name_call fun w1 hw1 => ?_
  have b1 : Below w.heap.size w w1 := by rw [hw1]; (repeat (first | with_reducible exact Below.refl _ _ | with_reducible assumption | with_reducible refine Below.drew ?_ | with_reducible refine bdrewN ?_ _ | ((with_reducible refine balloc ?_ ?_ _); (focus (first | with_reducible exact Nat.le_refl _ | (simp; done) | omega | (simp; omega) | exact Nat.le_refl _))) | ((with_reducible refine bset ?_ ?_ _); (focus (first | with_reducible exact Nat.le_refl _ | (simp; done) | omega | (simp; omega) | exact Nat.le_refl _)))))
  have z1 : w.heap.size + 1 ≤ w1.heap.size := by rw [hw1]; simp
  have e1 : Below w.heap.size w w1 := by rw [hw1]; (repeat (first | with_reducible exact Below.refl _ _ | with_reducible assumption | with_reducible refine Below.drew ?_ | with_reducible refine bdrewN ?_ _ | ((with_reducible refine balloc ?_ ?_ _); (focus (first | with_reducible exact Nat.le_refl _ | (simp; done) | omega | (simp; omega) | exact Nat.le_refl _))) | ((with_reducible refine bset ?_ ?_ _); (focus (first | with_reducible exact Nat.le_refl _ | (simp; done) | omega | (simp; omega) | exact Nat.le_refl _)))))
  have cI1 : w1.cell? ⟨w.heap.size, 0, none⟩ = some (.int .i64 s.ins) := by rw [hw1]; first | (simp; done) | go_simp
  have cO1 : w1.cell? ⟨w.heap.size, 1, none⟩ = some (.slice ao s.outs.length ko) := by rw [hw1]; first | (simp; done) | go_simp
  have cH1 : w1.cell? ⟨w.heap.size, 2, none⟩ = some (.slice ah s.hints.length kh) := by rw [hw1]; first | (simp; done) | go_simp
  have cC1 : w1.cell? ⟨w.heap.size, 3, none⟩ = some (.slice ac s.cons.length kc) := by rw [hw1]; first | (simp; done) | go_simp
  have tS1 := t.keep e1 (by omega)
  clear hw1
  refine (sysOk_implb o l h _ _ _ _ s _ tS1 (by omega) nh no nc _ HK.out).mono ?_; rintro e w2 ⟨rfl, f2⟩
  have b2 := b1.trans (f2.mono (by omega))
  have z2 := f2.size
  have cI2 := cell_keep f2 cI1
  have cO2 := cell_keep f2 cO1
  have cH2 := cell_keep f2 cH1
  have cC2 := cell_keep f2 cC1
  have tS2 := tS1.keep f2 (by omega)
  clear cI1 cO1 cH1 cC1 tS1
  clear tS2
  go_wp2_with fail
  go_loopw [4, 28] (fun b i wr => ∃ (k : Nat) (q : Int), k ≤ 4 ∧ q = (k : Int) ∧ i = .int .i64 q ∧ Below w.heap.size w wr ∧ w.heap.size + 1 ≤ wr.heap.size ∧ wr.cell? ⟨w.heap.size, 0, none⟩ = some (.int .i64 s.ins) ∧ wr.cell? ⟨w.heap.size, 1, none⟩ = some (.slice ao s.outs.length ko) ∧ wr.cell? ⟨w.heap.size, 2, none⟩ = some (.slice ah s.hints.length kh) ∧ wr.cell? ⟨w.heap.size, 3, none⟩ = some (.slice ac s.cons.length kc) ∧ wr.ownsRow (w.heap.size + 1) 5 1 b (([s.ins, (s.outs.length : Int), (s.hints.length : Int), (s.cons.length : Int)].take k).flatMap num4).length (bv (([s.ins, (s.outs.length : Int), (s.hints.length : Int), (s.cons.length : Int)].take k).flatMap num4))) (fun _ i _ => 4 - (intOf i).toNat)
  case atStart => exact ⟨0, 0, Nat.zero_le _, rfl, rfl, b2, by omega, cI2, cO2, cH2, cC2, World.ownsRow_nil _ _ _ _⟩
  case round =>
    clear cI2 cO2 cH2 cC2
    obtain ⟨k, q, hk, hq, rfl, be, zz, cI, cO, cH, cC, row⟩ := hrel
    by_cases hlt : k < 4
    · have k4 : k = 0 ∨ k = 1 ∨ k = 2 ∨ k = 3 := by omega
      clear hlt hk
      rcases k4 with rfl | rfl | rfl | rfl
      · obtain rfl : q = 0 := by omega
        clear hq
        have ix : ∀ w, Sem.run Try.prog (Instr.index 105 (.agg #[.int .i64 s.ins, .int .i64 (s.outs.length : Int), .int .i64 (s.hints.length : Int), .int .i64 (s.cons.length : Int)]) (.int .i64 0)) w = .ok (.int .i64 s.ins) w := fun _ => rfl
        have lcI : w.heap.size < wr.heap.size := World.block_lt_of_cell? _ _ cI
        go_wp2_with fail
        refine name_call fun wa1 hwa1 => ?_
        have ba1 : Below w.heap.size w wa1 := by rw [hwa1]; (repeat (first | with_reducible exact Below.refl _ _ | with_reducible assumption | with_reducible refine Below.drew ?_ | with_reducible refine bdrewN ?_ _ | ((with_reducible refine balloc ?_ ?_ _); (focus (first | with_reducible exact Nat.le_refl _ | (simp; done) | omega | (simp; omega) | exact Nat.le_refl _))) | ((with_reducible refine bset ?_ ?_ _); (focus (first | with_reducible exact Nat.le_refl _ | (simp; done) | omega | (simp; omega) | exact Nat.le_refl _)))))
        have za1 : wr.heap.size + 0 ≤ wa1.heap.size := by rw [hwa1]; simp
        have ea1 : Below wr.heap.size wr wa1 := by rw [hwa1]; (repeat (first | with_reducible exact Below.refl _ _ | with_reducible assumption | with_reducible refine Below.drew ?_ | with_reducible refine bdrewN ?_ _ | ((with_reducible refine balloc ?_ ?_ _); (focus (first | with_reducible exact Nat.le_refl _ | (simp; done) | omega | (simp; omega) | exact Nat.le_refl _))) | ((with_reducible refine bset ?_ ?_ _); (focus (first | with_reducible exact Nat.le_refl _ | (simp; done) | omega | (simp; omega) | exact Nat.le_refl _)))))
        have cIa1 := cell_keep ea1 cI
        have cOa1 := cell_keep ea1 cO
        have cHa1 := cell_keep ea1 cH
        have cCa1 := cell_keep ea1 cC
        clear hwa1 lcI cI cO cH cC
        have row1 := row_keep row ea1
        clear row
        refine (appendNumber_any (w.heap.size + 1) _ _ s.ins wa1 row1 (by omega) (by simp [num4]) (by omega) (by omega)).mono ?_; rintro e wa2 ⟨v1, rfl, g1, r1⟩
        have f1 := g1.below row1 (Nat.le_refl (w.heap.size + 1)) (by omega)
        have ba2 := ba1.trans (f1.mono (by omega))
        have za2 := g1.grown.size
        have kI := (f1.cell (p := ⟨w.heap.size, 0, none⟩) (Nat.lt_succ_self _)).trans cIa1
        have kO := (f1.cell (p := ⟨w.heap.size, 1, none⟩) (Nat.lt_succ_self _)).trans cOa1
        have kH := (f1.cell (p := ⟨w.heap.size, 2, none⟩) (Nat.lt_succ_self _)).trans cHa1
        have kC := (f1.cell (p := ⟨w.heap.size, 3, none⟩) (Nat.lt_succ_self _)).trans cCa1
        clear cIa1 cOa1 cHa1 cCa1 g1 row1 f1
        go_wp2_with fail
        go_roundw
        case rel => exact ⟨1, 1, by omega, rfl, rfl, ba2, by omega, kI, kO, kH, kC, by simpa using r1⟩
        case measure => simp [intOf]
      · obtain rfl : q = 1 := by omega
        clear hq
        have ix : ∀ w, Sem.run Try.prog (Instr.index 105 (.agg #[.int .i64 s.ins, .int .i64 (s.outs.length : Int), .int .i64 (s.hints.length : Int), .int .i64 (s.cons.length : Int)]) (.int .i64 1)) w = .ok (.int .i64 (s.outs.length : Int)) w := fun _ => rfl
        have lcI : w.heap.size < wr.heap.size := World.block_lt_of_cell? _ _ cI
        go_wp2_with fail
        refine name_call fun wb1 hwb1 => ?_
        have bb1 : Below w.heap.size w wb1 := by rw [hwb1]; (repeat (first | with_reducible exact Below.refl _ _ | with_reducible assumption | with_reducible refine Below.drew ?_ | with_reducible refine bdrewN ?_ _ | ((with_reducible refine balloc ?_ ?_ _); (focus (first | with_reducible exact Nat.le_refl _ | (simp; done) | omega | (simp; omega) | exact Nat.le_refl _))) | ((with_reducible refine bset ?_ ?_ _); (focus (first | with_reducible exact Nat.le_refl _ | (simp; done) | omega | (simp; omega) | exact Nat.le_refl _)))))
        have zb1 : wr.heap.size + 0 ≤ wb1.heap.size := by rw [hwb1]; simp
        have eb1 : Below wr.heap.size wr wb1 := by rw [hwb1]; (repeat (first | with_reducible exact Below.refl _ _ | with_reducible assumption | with_reducible refine Below.drew ?_ | with_reducible refine bdrewN ?_ _ | ((with_reducible refine balloc ?_ ?_ _); (focus (first | with_reducible exact Nat.le_refl _ | (simp; done) | omega | (simp; omega) | exact Nat.le_refl _))) | ((with_reducible refine bset ?_ ?_ _); (focus (first | with_reducible exact Nat.le_refl _ | (simp; done) | omega | (simp; omega) | exact Nat.le_refl _)))))
        have cIb1 := cell_keep eb1 cI
        have cOb1 := cell_keep eb1 cO
        have cHb1 := cell_keep eb1 cH
        have cCb1 := cell_keep eb1 cC
        clear hwb1 lcI cI cO cH cC
        have row1 := row_keep row eb1
        clear row
        refine (appendNumber_any (w.heap.size + 1) _ _ (s.outs.length : Int) wb1 row1 (by omega) (by simp [num4]) (by omega) (by omega)).mono ?_; rintro e wb2 ⟨v1, rfl, g1, r1⟩
        have f1 := g1.below row1 (Nat.le_refl (w.heap.size + 1)) (by omega)
        have bb2 := bb1.trans (f1.mono (by omega))
        have zb2 := g1.grown.size
        have kI := (f1.cell (p := ⟨w.heap.size, 0, none⟩) (Nat.lt_succ_self _)).trans cIb1
        have kO := (f1.cell (p := ⟨w.heap.size, 1, none⟩) (Nat.lt_succ_self _)).trans cOb1
        have kH := (f1.cell (p := ⟨w.heap.size, 2, none⟩) (Nat.lt_succ_self _)).trans cHb1
        have kC := (f1.cell (p := ⟨w.heap.size, 3, none⟩) (Nat.lt_succ_self _)).trans cCb1
        clear cIb1 cOb1 cHb1 cCb1 g1 row1 f1
        go_wp2_with fail
        go_roundw
        case rel => exact ⟨2, 2, by omega, rfl, rfl, bb2, by omega, kI, kO, kH, kC, by simpa using r1⟩
        case measure => simp [intOf]
      · obtain rfl : q = 2 := by omega
        clear hq
        have ix : ∀ w, Sem.run Try.prog (Instr.index 105 (.agg #[.int .i64 s.ins, .int .i64 (s.outs.length : Int), .int .i64 (s.hints.length : Int), .int .i64 (s.cons.length : Int)]) (.int .i64 2)) w = .ok (.int .i64 (s.hints.length : Int)) w := fun _ => rfl
        have lcI : w.heap.size < wr.heap.size := World.block_lt_of_cell? _ _ cI
        go_wp2_with fail
        refine name_call fun wc1 hwc1 => ?_
        have bc1 : Below w.heap.size w wc1 := by rw [hwc1]; (repeat (first | with_reducible exact Below.refl _ _ | with_reducible assumption | with_reducible refine Below.drew ?_ | with_reducible refine bdrewN ?_ _ | ((with_reducible refine balloc ?_ ?_ _); (focus (first | with_reducible exact Nat.le_refl _ | (simp; done) | omega | (simp; omega) | exact Nat.le_refl _))) | ((with_reducible refine bset ?_ ?_ _); (focus (first | with_reducible exact Nat.le_refl _ | (simp; done) | omega | (simp; omega) | exact Nat.le_refl _)))))
        have zc1 : wr.heap.size + 0 ≤ wc1.heap.size := by rw [hwc1]; simp
        have ec1 : Below wr.heap.size wr wc1 := by rw [hwc1]; (repeat (first | with_reducible exact Below.refl _ _ | with_reducible assumption | with_reducible refine Below.drew ?_ | with_reducible refine bdrewN ?_ _ | ((with_reducible refine balloc ?_ ?_ _); (focus (first | with_reducible exact Nat.le_refl _ | (simp; done) | omega | (simp; omega) | exact Nat.le_refl _))) | ((with_reducible refine bset ?_ ?_ _); (focus (first | with_reducible exact Nat.le_refl _ | (simp; done) | omega | (simp; omega) | exact Nat.le_refl _)))))
        have cIc1 := cell_keep ec1 cI
        have cOc1 := cell_keep ec1 cO
        have cHc1 := cell_keep ec1 cH
        have cCc1 := cell_keep ec1 cC
        clear hwc1 lcI cI cO cH cC
        have row1 := row_keep row ec1
        clear row
        refine (appendNumber_any (w.heap.size + 1) _ _ (s.hints.length : Int) wc1 row1 (by omega) (by simp [num4]) (by omega) (by omega)).mono ?_; rintro e wc2 ⟨v1, rfl, g1, r1⟩
        have f1 := g1.below row1 (Nat.le_refl (w.heap.size + 1)) (by omega)
        have bc2 := bc1.trans (f1.mono (by omega))
        have zc2 := g1.grown.size
        have kI := (f1.cell (p := ⟨w.heap.size, 0, none⟩) (Nat.lt_succ_self _)).trans cIc1
        have kO := (f1.cell (p := ⟨w.heap.size, 1, none⟩) (Nat.lt_succ_self _)).trans cOc1
        have kH := (f1.cell (p := ⟨w.heap.size, 2, none⟩) (Nat.lt_succ_self _)).trans cHc1
        have kC := (f1.cell (p := ⟨w.heap.size, 3, none⟩) (Nat.lt_succ_self _)).trans cCc1
        clear cIc1 cOc1 cHc1 cCc1 g1 row1 f1
        go_wp2_with fail
        go_roundw
        case rel => exact ⟨3, 3, by omega, rfl, rfl, bc2, by omega, kI, kO, kH, kC, by simpa using r1⟩
        case measure => simp [intOf]
      · obtain rfl : q = 3 := by omega
        clear hq
        have ix : ∀ w, Sem.run Try.prog (Instr.index 105 (.agg #[.int .i64 s.ins, .int .i64 (s.outs.length : Int), .int .i64 (s.hints.length : Int), .int .i64 (s.cons.length : Int)]) (.int .i64 3)) w = .ok (.int .i64 (s.cons.length : Int)) w := fun _ => rfl
        have lcI : w.heap.size < wr.heap.size := World.block_lt_of_cell? _ _ cI
        go_wp2_with fail
        refine name_call fun wd1 hwd1 => ?_
        have bd1 : Below w.heap.size w wd1 := by rw [hwd1]; (repeat (first | with_reducible exact Below.refl _ _ | with_reducible assumption | with_reducible refine Below.drew ?_ | with_reducible refine bdrewN ?_ _ | ((with_reducible refine balloc ?_ ?_ _); (focus (first | with_reducible exact Nat.le_refl _ | (simp; done) | omega | (simp; omega) | exact Nat.le_refl _))) | ((with_reducible refine bset ?_ ?_ _); (focus (first | with_reducible exact Nat.le_refl _ | (simp; done) | omega | (simp; omega) | exact Nat.le_refl _)))))
        have zd1 : wr.heap.size + 0 ≤ wd1.heap.size := by rw [hwd1]; simp
        have ed1 : Below wr.heap.size wr wd1 := by rw [hwd1]; (repeat (first | with_reducible exact Below.refl _ _ | with_reducible assumption | with_reducible refine Below.drew ?_ | with_reducible refine bdrewN ?_ _ | ((with_reducible refine balloc ?_ ?_ _); (focus (first | with_reducible exact Nat.le_refl _ | (simp; done) | omega | (simp; omega) | exact Nat.le_refl _))) | ((with_reducible refine bset ?_ ?_ _); (focus (first | with_reducible exact Nat.le_refl _ | (simp; done) | omega | (simp; omega) | exact Nat.le_refl _)))))
        have cId1 := cell_keep ed1 cI
        have cOd1 := cell_keep ed1 cO
        have cHd1 := cell_keep ed1 cH
        have cCd1 := cell_keep ed1 cC
        clear hwd1 lcI cI cO cH cC
        have row1 := row_keep row ed1
        clear row
        refine (appendNumber_any (w.heap.size + 1) _ _ (s.cons.length : Int) wd1 row1 (by omega) (by simp [num4]) (by omega) (by omega)).mono ?_; rintro e wd2 ⟨v1, rfl, g1, r1⟩
        have f1 := g1.below row1 (Nat.le_refl (w.heap.size + 1)) (by omega)
        have bd2 := bd1.trans (f1.mono (by omega))
        have zd2 := g1.grown.size
        have kI := (f1.cell (p := ⟨w.heap.size, 0, none⟩) (Nat.lt_succ_self _)).trans cId1
        have kO := (f1.cell (p := ⟨w.heap.size, 1, none⟩) (Nat.lt_succ_self _)).trans cOd1
        have kH := (f1.cell (p := ⟨w.heap.size, 2, none⟩) (Nat.lt_succ_self _)).trans cHd1
        have kC := (f1.cell (p := ⟨w.heap.size, 3, none⟩) (Nat.lt_succ_self _)).trans cCd1
        clear cId1 cOd1 cHd1 cCd1 g1 row1 f1
        go_wp2_with fail
        go_roundw
        case rel => exact ⟨4, 4, by omega, rfl, rfl, bd2, by omega, kI, kO, kH, kC, by simpa using r1⟩
        case measure => simp [intOf]
    · obtain rfl : k = 4 := by omega
      obtain rfl : q = 4 := by omega
      clear hq hk hlt
      have hd : ([s.ins, (s.outs.length : Int), (s.hints.length : Int), (s.cons.length : Int)].take 4).flatMap num4 = headBytes s := by simp [headBytes, List.append_assoc]
      rw [hd] at row
      have LH : (headBytes s).length = 16 := rfl
      clear hd
      go_wp2_with fail
      go_loopw [4, 38] (fun b i wr => ∃ k : Nat, k ≤ s.outs.length ∧ i = .int .i64 k ∧ Below w.heap.size w wr ∧ w.heap.size + 1 ≤ wr.heap.size ∧ wr.cell? ⟨w.heap.size, 0, none⟩ = some (.int .i64 s.ins) ∧ wr.cell? ⟨w.heap.size, 1, none⟩ = some (.slice ao s.outs.length ko) ∧ wr.cell? ⟨w.heap.size, 2, none⟩ = some (.slice ah s.hints.length kh) ∧ wr.cell? ⟨w.heap.size, 3, none⟩ = some (.slice ac s.cons.length kc) ∧ wr.ownsRow (w.heap.size + 1) 5 1 b (headBytes s ++ (s.outs.take k).flatMap linBytes).length (bv (headBytes s ++ (s.outs.take k).flatMap linBytes))) (fun _ i _ => s.outs.length - (intOf i).toNat)
      case atStart => exact ⟨0, Nat.zero_le _, rfl, be, by omega, cI, cO, cH, cC, by simpa using row⟩
      case round =>
        clear cI cO cH cC row
        obtain ⟨k, hk, rfl, be, zz, cI, cO, cH, cC, row⟩ := hrel
        by_cases hlt : k < s.outs.length
        · obtain ⟨b, off, va, rfl, l1, m1, c0, ta⟩ := (tO.keep be hw).at hlt
          obtain ⟨x, kx, rfl, lx, bx⟩ := ta.shape
          have HW := OI.out _ (List.getElem_mem hlt)
          obtain ⟨F4, n3⟩ := linW_four HW
          have LF := flat_le (f := linBytes) (M := 24100) (fun x hx => linBytes_le (OI.out x hx)) k
          have LM : s.outs.length * 24100 ≤ 40 * 24100 := Nat.mul_le_mul_right _ i3
          obtain ⟨F, hF⟩ : ∃ F, F = headBytes s ++ (s.outs.take k).flatMap linBytes := ⟨_, rfl⟩
          rw [← hF] at row
          have HE : Hid (headBytes s ++ (s.outs.take (k + 1)).flatMap linBytes = F ++ linBytes s.outs[k]) := Lib.hid (by rw [flat_step hlt, hF]; simp only [List.append_assoc])
          have hlen : F.length ≤ 800000000000 := by rw [hF, List.length_append]; omega
          clear hF LF
          have HF4 := Lib.hid F4
          clear F4 HW LM
          have lcI : w.heap.size < wr.heap.size := World.block_lt_of_cell? _ _ cI
          go_wp2_with fail
          refine name_call fun wp1 hwp1 => ?_
          have bp1 : Below w.heap.size w wp1 := by rw [hwp1]; (repeat (first | with_reducible exact Below.refl _ _ | with_reducible assumption | with_reducible refine Below.drew ?_ | with_reducible refine bdrewN ?_ _ | ((with_reducible refine balloc ?_ ?_ _); (focus (first | with_reducible exact Nat.le_refl _ | (simp; done) | omega | (simp; omega) | exact Nat.le_refl _))) | ((with_reducible refine bset ?_ ?_ _); (focus (first | with_reducible exact Nat.le_refl _ | (simp; done) | omega | (simp; omega) | exact Nat.le_refl _)))))
          have zp1 : wr.heap.size + 1 ≤ wp1.heap.size := by rw [hwp1]; simp
          have ep1 : Below wr.heap.size wr wp1 := by rw [hwp1]; (repeat (first | with_reducible exact Below.refl _ _ | with_reducible assumption | with_reducible refine Below.drew ?_ | with_reducible refine bdrewN ?_ _ | ((with_reducible refine balloc ?_ ?_ _); (focus (first | with_reducible exact Nat.le_refl _ | (simp; done) | omega | (simp; omega) | exact Nat.le_refl _))) | ((with_reducible refine bset ?_ ?_ _); (focus (first | with_reducible exact Nat.le_refl _ | (simp; done) | omega | (simp; omega) | exact Nat.le_refl _)))))
          have cIp1 := cell_keep ep1 cI
          have cOp1 := cell_keep ep1 cO
          have cHp1 := cell_keep ep1 cH
          have cCp1 := cell_keep ep1 cC
          have tAp1 := ta.keep ep1 (by omega)
          clear hwp1 lcI cI cO cH cC ta
          have row1 := row_keep row ep1
          clear row
          refine (appendLin_any (w.heap.size + 1) _ F o l h _ s.outs[k] wp1 row1 (by omega) tAp1 (by omega) HF4.out (by omega) (by omega)).mono ?_; rintro e wp2 ⟨v1, rfl, g1, r1⟩
          have f1 := g1.below row1 (Nat.le_refl (w.heap.size + 1)) (by omega)
          have bp2 := bp1.trans (f1.mono (by omega))
          have zp2 := g1.grown.size
          have kI := (f1.cell (p := ⟨w.heap.size, 0, none⟩) (Nat.lt_succ_self _)).trans cIp1
          have kO := (f1.cell (p := ⟨w.heap.size, 1, none⟩) (Nat.lt_succ_self _)).trans cOp1
          have kH := (f1.cell (p := ⟨w.heap.size, 2, none⟩) (Nat.lt_succ_self _)).trans cHp1
          have kC := (f1.cell (p := ⟨w.heap.size, 3, none⟩) (Nat.lt_succ_self _)).trans cCp1
          clear cIp1 cOp1 cHp1 cCp1 g1 row1 f1
          go_wp2_with fail
          go_roundw
          case rel => exact ⟨k + 1, by omega, by go_num, bp2, by omega, kI, kO, kH, kC, by rw [HE.out]; exact r1⟩
          case measure => simp [intOf]; omega
        · obtain rfl : k = s.outs.length := by omega
          rw [List.take_length] at row
          have L1 : (s.outs.flatMap linBytes).length ≤ 40 * 24100 := by have := flat_le (f := linBytes) (M := 24100) (fun x hx => linBytes_le (OI.out x hx)) s.outs.length; rw [List.take_length] at this; exact Nat.le_trans this (Nat.mul_le_mul_right _ i3)
          have L1T : (headBytes s ++ s.outs.flatMap linBytes).length ≤ 1000000 := by rw [List.length_append]; omega
          go_wp2_with fail
          go_loopw [4, 49] (fun b i wr => ∃ k : Nat, k ≤ s.hints.length ∧ i = .int .i64 k ∧ Below w.heap.size w wr ∧ w.heap.size + 1 ≤ wr.heap.size ∧ wr.cell? ⟨w.heap.size, 0, none⟩ = some (.int .i64 s.ins) ∧ wr.cell? ⟨w.heap.size, 1, none⟩ = some (.slice ao s.outs.length ko) ∧ wr.cell? ⟨w.heap.size, 2, none⟩ = some (.slice ah s.hints.length kh) ∧ wr.cell? ⟨w.heap.size, 3, none⟩ = some (.slice ac s.cons.length kc) ∧ wr.ownsRow (w.heap.size + 1) 5 1 b (headBytes s ++ s.outs.flatMap linBytes ++ (s.hints.take k).flatMap hintBytes).length (bv (headBytes s ++ s.outs.flatMap linBytes ++ (s.hints.take k).flatMap hintBytes))) (fun _ i _ => s.hints.length - (intOf i).toNat)
          case atStart => exact ⟨0, Nat.zero_le _, rfl, be, by omega, cI, cO, cH, cC, by simpa using row⟩
          case round =>
            clear cI cO cH cC row
            obtain ⟨k, hk, rfl, be, zz, cI, cO, cH, cC, row⟩ := hrel
            by_cases hlt : k < s.hints.length
            · obtain ⟨b, off, va, vb, rfl, l1, m1, c0, c1, c2, c3, _, _, ta, tb⟩ := (tH.keep be hw).at hlt
              obtain ⟨x, kx, rfl, lx, bx⟩ := ta.shape
              obtain ⟨y, ky, rfl, ly, by'⟩ := tb.shape
              have HW := HI.out _ (List.getElem_mem hlt)
              obtain ⟨fa, fb, na, nb, q0, q1, j0, j1⟩ := HW
              have LF := flat_le (f := hintBytes) (M := 48100) (fun x hx => hintBytes_le (HI.out x hx)) k
              have LM : s.hints.length * 48100 ≤ 3000 * 48100 := Nat.mul_le_mul_right _ (by omega)
              obtain ⟨F, hF⟩ : ∃ F, F = headBytes s ++ s.outs.flatMap linBytes ++ (s.hints.take k).flatMap hintBytes := ⟨_, rfl⟩
              rw [← hF] at row
              have HE : Hid (headBytes s ++ s.outs.flatMap linBytes ++ (s.hints.take (k + 1)).flatMap hintBytes = F ++ hintBytes s.hints[k]) := Lib.hid (by rw [flat_step hlt, hF]; simp only [List.append_assoc])
              have hlen : F.length ≤ 800000000000 := by rw [hF, List.length_append]; omega
              clear hF LF
              have HFA := Lib.hid fa
              have HFB := Lib.hid fb
              clear fa fb LM
              have lcI : w.heap.size < wr.heap.size := World.block_lt_of_cell? _ _ cI
              go_wp2_with fail
              refine name_call fun wq1 hwq1 => ?_
              have bq1 : Below w.heap.size w wq1 := by rw [hwq1]; (repeat (first | with_reducible exact Below.refl _ _ | with_reducible assumption | with_reducible refine Below.drew ?_ | with_reducible refine bdrewN ?_ _ | ((with_reducible refine balloc ?_ ?_ _); (focus (first | with_reducible exact Nat.le_refl _ | (simp; done) | omega | (simp; omega) | exact Nat.le_refl _))) | ((with_reducible refine bset ?_ ?_ _); (focus (first | with_reducible exact Nat.le_refl _ | (simp; done) | omega | (simp; omega) | exact Nat.le_refl _)))))
              have zq1 : wr.heap.size + 1 ≤ wq1.heap.size := by rw [hwq1]; simp
              have eq1 : Below wr.heap.size wr wq1 := by rw [hwq1]; (repeat (first | with_reducible exact Below.refl _ _ | with_reducible assumption | with_reducible refine Below.drew ?_ | with_reducible refine bdrewN ?_ _ | ((with_reducible refine balloc ?_ ?_ _); (focus (first | with_reducible exact Nat.le_refl _ | (simp; done) | omega | (simp; omega) | exact Nat.le_refl _))) | ((with_reducible refine bset ?_ ?_ _); (focus (first | with_reducible exact Nat.le_refl _ | (simp; done) | omega | (simp; omega) | exact Nat.le_refl _)))))
              have cIq1 := cell_keep eq1 cI
              have cOq1 := cell_keep eq1 cO
              have cHq1 := cell_keep eq1 cH
              have cCq1 := cell_keep eq1 cC
              have tAq1 := ta.keep eq1 (by omega)
              have tBq1 := tb.keep eq1 (by omega)
              clear hwq1 lcI cI cO cH cC ta tb
              have row1 := row_keep row eq1
              clear row
              refine (appendHint_any (w.heap.size + 1) _ F o l h _ _ s.hints[k] wq1 row1 (by omega) tAq1 tBq1 (by omega) HFA.out HFB.out (by omega) (by omega) q0 q1 j0 j1 (by omega)).mono ?_; rintro e wq2 ⟨v1, rfl, g1, r1⟩
              have f1 := g1.below row1 (Nat.le_refl (w.heap.size + 1)) (by omega)
              have bq2 := bq1.trans (f1.mono (by omega))
              have zq2 := g1.grown.size
              have kI := (f1.cell (p := ⟨w.heap.size, 0, none⟩) (Nat.lt_succ_self _)).trans cIq1
              have kO := (f1.cell (p := ⟨w.heap.size, 1, none⟩) (Nat.lt_succ_self _)).trans cOq1
              have kH := (f1.cell (p := ⟨w.heap.size, 2, none⟩) (Nat.lt_succ_self _)).trans cHq1
              have kC := (f1.cell (p := ⟨w.heap.size, 3, none⟩) (Nat.lt_succ_self _)).trans cCq1
              clear cIq1 cOq1 cHq1 cCq1 g1 row1 f1
              go_wp2_with fail
              go_roundw
              case rel => exact ⟨k + 1, by omega, by go_num, bq2, by omega, kI, kO, kH, kC, by rw [HE.out]; exact r1⟩
              case measure => simp [intOf]; omega
            · obtain rfl : k = s.hints.length := by omega
              rw [List.take_length] at row
              have L2 : (s.hints.flatMap hintBytes).length ≤ 3000 * 48100 := by have := flat_le (f := hintBytes) (M := 48100) (fun x hx => hintBytes_le (HI.out x hx)) s.hints.length; rw [List.take_length] at this; exact Nat.le_trans this (Nat.mul_le_mul_right _ (by omega))
              have L2T : (headBytes s ++ s.outs.flatMap linBytes ++ s.hints.flatMap hintBytes).length ≤ 200000000 := by rw [List.length_append]; omega
              go_wp2_with fail
              go_loopw [4, 60] (fun b i wr => ∃ k : Nat, k ≤ s.cons.length ∧ i = .int .i64 k ∧ Below w.heap.size w wr ∧ w.heap.size + 1 ≤ wr.heap.size ∧ wr.cell? ⟨w.heap.size, 0, none⟩ = some (.int .i64 s.ins) ∧ wr.cell? ⟨w.heap.size, 1, none⟩ = some (.slice ao s.outs.length ko) ∧ wr.cell? ⟨w.heap.size, 2, none⟩ = some (.slice ah s.hints.length kh) ∧ wr.cell? ⟨w.heap.size, 3, none⟩ = some (.slice ac s.cons.length kc) ∧ wr.ownsRow (w.heap.size + 1) 5 1 b (headBytes s ++ s.outs.flatMap linBytes ++ s.hints.flatMap hintBytes ++ (s.cons.take k).flatMap conBytes).length (bv (headBytes s ++ s.outs.flatMap linBytes ++ s.hints.flatMap hintBytes ++ (s.cons.take k).flatMap conBytes))) (fun _ i _ => s.cons.length - (intOf i).toNat)
              case atStart => exact ⟨0, Nat.zero_le _, rfl, be, by omega, cI, cO, cH, cC, by simpa using row⟩
              case round =>
                clear cI cO cH cC row
                obtain ⟨k, hk, rfl, be, zz, cI, cO, cH, cC, row⟩ := hrel
                by_cases hlt : k < s.cons.length
                · obtain ⟨b, off, va, vb, vc, rfl, l1, m1, c0, c1, c2, ta, tb, tc⟩ := (tC.keep be hw).at hlt
                  obtain ⟨x, kx, rfl, lx, bx⟩ := ta.shape
                  obtain ⟨y, ky, rfl, ly, by'⟩ := tb.shape
                  obtain ⟨z, kz, rfl, lz, bz'⟩ := tc.shape
                  have HW := CI.out _ (List.getElem_mem hlt)
                  obtain ⟨wa, wb, wc⟩ := conW_parts HW
                  obtain ⟨fa, na⟩ := linW_four wa
                  obtain ⟨fb, nb⟩ := linW_four wb
                  obtain ⟨fc, nc'⟩ := linW_four wc
                  have LF := flat_le (f := conBytes) (M := 72100) (fun x hx => conBytes_le (CI.out x hx)) k
                  have LM : s.cons.length * 72100 ≤ 4000 * 72100 := Nat.mul_le_mul_right _ (by omega)
                  obtain ⟨F, hF⟩ : ∃ F, F = headBytes s ++ s.outs.flatMap linBytes ++ s.hints.flatMap hintBytes ++ (s.cons.take k).flatMap conBytes := ⟨_, rfl⟩
                  rw [← hF] at row
                  have HE : Hid (headBytes s ++ s.outs.flatMap linBytes ++ s.hints.flatMap hintBytes ++ (s.cons.take (k + 1)).flatMap conBytes = F ++ conBytes s.cons[k]) := Lib.hid (by rw [flat_step hlt, hF]; simp only [List.append_assoc])
                  have hlen : F.length ≤ 800000000000 := by rw [hF, List.length_append]; omega
                  clear hF LF
                  have HFA := Lib.hid fa
                  have HFB := Lib.hid fb
                  have HFC := Lib.hid fc
                  clear fa fb fc wa wb wc HW LM
                  have lcI : w.heap.size < wr.heap.size := World.block_lt_of_cell? _ _ cI
                  go_wp2_with fail
                  refine name_call fun wr1 hwr1 => ?_
                  have br1 : Below w.heap.size w wr1 := by rw [hwr1]; (repeat (first | with_reducible exact Below.refl _ _ | with_reducible assumption | with_reducible refine Below.drew ?_ | with_reducible refine bdrewN ?_ _ | ((with_reducible refine balloc ?_ ?_ _); (focus (first | with_reducible exact Nat.le_refl _ | (simp; done) | omega | (simp; omega) | exact Nat.le_refl _))) | ((with_reducible refine bset ?_ ?_ _); (focus (first | with_reducible exact Nat.le_refl _ | (simp; done) | omega | (simp; omega) | exact Nat.le_refl _)))))
                  have zr1 : wr.heap.size + 1 ≤ wr1.heap.size := by rw [hwr1]; simp
                  have er1 : Below wr.heap.size wr wr1 := by rw [hwr1]; (repeat (first | with_reducible exact Below.refl _ _ | with_reducible assumption | with_reducible refine Below.drew ?_ | with_reducible refine bdrewN ?_ _ | ((with_reducible refine balloc ?_ ?_ _); (focus (first | with_reducible exact Nat.le_refl _ | (simp; done) | omega | (simp; omega) | exact Nat.le_refl _))) | ((with_reducible refine bset ?_ ?_ _); (focus (first | with_reducible exact Nat.le_refl _ | (simp; done) | omega | (simp; omega) | exact Nat.le_refl _)))))
                  have cIr1 := cell_keep er1 cI
                  have cOr1 := cell_keep er1 cO
                  have cHr1 := cell_keep er1 cH
                  have cCr1 := cell_keep er1 cC
                  have tAr1 := ta.keep er1 (by omega)
                  have tBr1 := tb.keep er1 (by omega)
                  have tCr1 := tc.keep er1 (by omega)
                  clear hwr1 lcI cI cO cH cC ta tb tc
                  have row1 := row_keep row er1
                  clear row
                  refine (appendCon_any (w.heap.size + 1) _ F o l h _ _ _ s.cons[k] wr1 row1 (by omega) tAr1 tBr1 tCr1 (by omega) HFA.out HFB.out HFC.out (by omega) (by omega) (by omega) (by omega)).mono ?_; rintro e wr2 ⟨v1, rfl, g1, r1⟩
                  have f1 := g1.below row1 (Nat.le_refl (w.heap.size + 1)) (by omega)
                  have br2 := br1.trans (f1.mono (by omega))
                  have zr2 := g1.grown.size
                  have kI := (f1.cell (p := ⟨w.heap.size, 0, none⟩) (Nat.lt_succ_self _)).trans cIr1
                  have kO := (f1.cell (p := ⟨w.heap.size, 1, none⟩) (Nat.lt_succ_self _)).trans cOr1
                  have kH := (f1.cell (p := ⟨w.heap.size, 2, none⟩) (Nat.lt_succ_self _)).trans cHr1
                  have kC := (f1.cell (p := ⟨w.heap.size, 3, none⟩) (Nat.lt_succ_self _)).trans cCr1
                  clear cIr1 cOr1 cHr1 cCr1 g1 row1 f1
                  go_wp2_with fail
                  go_roundw
                  case rel => exact ⟨k + 1, by omega, by go_num, br2, by omega, kI, kO, kH, kC, by rw [HE.out]; exact r1⟩
                  case measure => simp [intOf]; omega
                · obtain rfl : k = s.cons.length := by omega
                  rw [List.take_length] at row
                  have L3 : (s.cons.flatMap conBytes).length ≤ 4000 * 72100 := by have := flat_le (f := conBytes) (M := 72100) (fun x hx => conBytes_le (CI.out x hx)) s.cons.length; rw [List.take_length] at this; exact Nat.le_trans this (Nat.mul_le_mul_right _ (by omega))
                  have fin := row_base row (Nat.le_succ w.heap.size)
                  rw [show headBytes s ++ s.outs.flatMap linBytes ++ s.hints.flatMap hintBytes ++ s.cons.flatMap conBytes = sysB s from HR.out.symm] at fin
                  clear row
                  go_wp2_with fail
                  go_ret2
                  exact ⟨_, rfl, be, fin⟩
end Go.Proofs.Ytaohghgdjnkgdaa.L
