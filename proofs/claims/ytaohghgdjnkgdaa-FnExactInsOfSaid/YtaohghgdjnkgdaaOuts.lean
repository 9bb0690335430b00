/- The results of systems, and the constraints that fail: the program's functions and their models. -/
import Derived.Test.YtaohghgdjnkgdaaCheck
import Derived.Test.YtaohghgdjnkgdaaNums2
import Derived.OwnWalk
import Derived.Deep.Cut
namespace Go.Proofs.Ytaohghgdjnkgdaa.L
open Go.RowKit Go.Proofs.Ytaohghgdjnkgdaa.S
set_option linter.unusedVariables false
set_option linter.unusedSimpArgs false

def outsL (s : SysC) (xs : List Int) : List Int := if checkB s xs = true then s.outs.map (lval xs) else []
theorem outsL_len (s : SysC) (xs : List Int) : (outsL s xs).length ≤ s.outs.length := by unfold outsL; split <;> simp
/-- The places, from k on, of those that do not fulfil f. -/
def failL (f : ConC → Bool) : Nat → List ConC → List Int
  | _, [] => []
  | k, c :: r => if f c = true then failL f (k + 1) r else (k : Int) :: failL f (k + 1) r
theorem failL_snoc (f : ConC → Bool) (l : List ConC) (c : ConC) : ∀ k, failL f k (l ++ [c]) = failL f k l ++ (if f c = true then [] else [((k + l.length : Nat) : Int)]) := by
  induction l with
  | nil => intro k; simp only [List.nil_append, failL, List.length_nil, Nat.add_zero]
  | cons d r ih =>
    intro k
    rw [List.cons_append, failL, failL, ih (k + 1), show k + 1 + r.length = k + (d :: r).length from by simp; omega]
    split <;> rfl
theorem failL_step {f : ConC → Bool} {l : List ConC} {k : Nat} (hk : k < l.length) (b : Bool) (h : f l[k] = b) : failL f 0 (l.take (k + 1)) = failL f 0 (l.take k) ++ (if b = true then [] else [(k : Int)]) := by
  rw [take_step (List.getElem?_eq_getElem hk), failL_snoc, h, show 0 + (l.take k).length = k from by simp; omega]
theorem failL_len (f : ConC → Bool) (l : List ConC) : ∀ k, (failL f k l).length ≤ l.length := by
  induction l with
  | nil => intro k; simp [failL]
  | cons c r ih => intro k; have := ih (k + 1); rw [failL]; split <;> simp <;> omega
theorem failL_bd (f : ConC → Bool) (l : List ConC) : ∀ k, ∀ x ∈ failL f k l, 0 ≤ x ∧ x < k + l.length := by
  induction l with
  | nil => intro k x hx; simp [failL] at hx
  | cons c r ih =>
    intro k x hx
    rw [failL] at hx
    simp only [List.length_cons]
    split at hx
    · have := ih (k + 1) x hx; omega
    · rcases List.mem_cons.1 hx with rfl | hx
      · omega
      · have := ih (k + 1) x hx; omega
def fitF (xs : List Int) (c : ConC) : Bool := isAsg xs && holdsB xs c
def failing (s : SysC) (xs : List Int) : List Int := if sysOk s = true ∧ (xs.length : Int) = varsN s then failL (fitF xs) 0 s.cons else []
theorem failing_len (s : SysC) (xs : List Int) : (failing s xs).length ≤ s.cons.length := by
  unfold failing
  split
  · exact failL_len _ _ _
  · simp

theorem checkB_facts {s : SysC} {xs : List Int} (h : checkB s xs = true) : sysOk s = true ∧ (xs.length : Int) = varsN s ∧ isAsg xs = true := by
  unfold checkB at h
  rw [Bool.and_eq_true, Bool.and_eq_true, Bool.and_eq_true] at h
  exact ⟨h.1, of_decide_eq_true h.2.1, h.2.2.1⟩
theorem map_len {α β : Type} {f : α → β} {l : List α} {k : Nat} (h : k ≤ l.length) : ((l.take k).map f).length = k := by simp; omega

set_option maxRecDepth 100000 in
set_option maxHeartbeats 6400000 in
theorem outsOf_impl (o l h vi vo vh vc) (s : SysC) (lim : Nat) (v : Value) (xs : List Int) (w : World) (t : SysR o l h w vi vo vh vc s) (hw : h ≤ w.heap.size) (ti : Ints lim w v xs) (hl : lim ≤ w.heap.size) (ni : xs.length ≤ 1048576) (nh : s.hints.length ≤ 1048576) (no : s.outs.length ≤ 1048576) (nc : s.cons.length ≤ 1048576) :
    Calls Try.prog 33 #[.agg #[vi, vo, vh, vc], v] w fun e w' => ∃ u, e = .returned (.tuple #[u, .bool (checkB s xs)]) ∧ Below w.heap.size w w' ∧ Nums true w.heap.size w'.heap.size w' u (outsL s xs) := by
  obtain ⟨tO, tH, tC⟩ := t.parts
  obtain ⟨ao, ko, ah, kh, ac, kc, rfl, rfl, rfl, rfl, lo, bo, lh, bh, lc, bc, fi⟩ := t.shape
  obtain ⟨ai, ki, rfl, lai, bai⟩ := ti.shape
  obtain ⟨i0, hi0, hz0, hz1, hz2⟩ := info_parts intInfo
  cases h1 : checkB s xs
  · have HR : Hid (outsL s xs = []) := Lib.hid (if_neg (by rw [h1]; simp))
    have H1 := Lib.hid h1
    clear h1
    go_enter Try.func33, Try.ntmps33
    go_wp2_with fail
    refine name_call fun w1 hw1 => ?_
    have b1 : Below w.heap.size w w1 := by rw [hw1]; (repeat (first | with_reducible exact Below.refl _ _ | with_reducible assumption | with_reducible refine Below.drew ?_ | with_reducible refine bdrewN ?_ _ | ((with_reducible refine balloc ?_ ?_ _); (focus (first | with_reducible exact Nat.le_refl _ | (simp; done) | omega | (simp; omega) | exact Nat.le_refl _))) | ((with_reducible refine bset ?_ ?_ _); (focus (first | with_reducible exact Nat.le_refl _ | (simp; done) | omega | (simp; omega) | exact Nat.le_refl _)))))
    have z1 : w.heap.size + 1 ≤ w1.heap.size := by rw [hw1]; simp
    have e1 : Below w.heap.size w w1 := by rw [hw1]; (repeat (first | with_reducible exact Below.refl _ _ | with_reducible assumption | with_reducible refine Below.drew ?_ | with_reducible refine bdrewN ?_ _ | ((with_reducible refine balloc ?_ ?_ _); (focus (first | with_reducible exact Nat.le_refl _ | (simp; done) | omega | (simp; omega) | exact Nat.le_refl _))) | ((with_reducible refine bset ?_ ?_ _); (focus (first | with_reducible exact Nat.le_refl _ | (simp; done) | omega | (simp; omega) | exact Nat.le_refl _)))))
    have cI1 : w1.cell? ⟨w.heap.size, 0, none⟩ = some (.int .i64 s.ins) := by rw [hw1]; first | (simp; done) | go_simp
    have cO1 : w1.cell? ⟨w.heap.size, 1, none⟩ = some (.slice ao s.outs.length ko) := by rw [hw1]; first | (simp; done) | go_simp
    have cH1 : w1.cell? ⟨w.heap.size, 2, none⟩ = some (.slice ah s.hints.length kh) := by rw [hw1]; first | (simp; done) | go_simp
    have cC1 : w1.cell? ⟨w.heap.size, 3, none⟩ = some (.slice ac s.cons.length kc) := by rw [hw1]; first | (simp; done) | go_simp
    have tS1 := t.keep e1 (by omega)
    have tV1 := ti.keep e1 (by omega)
    clear hw1
    refine (check_impl o l h _ _ _ _ s lim _ xs _ tS1 (by omega) tV1 (by omega) ni nh no nc).mono ?_; rw [H1.out]; rintro e w2 ⟨rfl, f2⟩
    have b2 := b1.trans (f2.mono (by omega))
    have z2 := f2.size
    have cI2 := cell_keep f2 cI1
    have cO2 := cell_keep f2 cO1
    have cH2 := cell_keep f2 cH1
    have cC2 := cell_keep f2 cC1
    have tS2 := tS1.keep f2 (by omega)
    have tV2 := tV1.keep f2 (by omega)
    clear cI1 cO1 cH1 cC1 tS1 tV1
    go_wp2_with fail
    go_ret2
    exact ⟨_, rfl, b2, by rw [HR.out]; exact Nums.nil _ _ _ _⟩
  obtain ⟨h2, h3, h4⟩ := checkB_facts h1
  have HR : Hid (outsL s xs = s.outs.map (lval xs)) := Lib.hid (if_pos h1)
  have HI := Lib.hid (outs_in h2 h3)
  have H1 := Lib.hid h1
  have H4 := Lib.hid h4
  clear h1 h2 h3 h4
  go_enter Try.func33, Try.ntmps33
  go_wp2_with fail
  refine name_call fun w1 hw1 => ?_
  have b1 : Below w.heap.size w w1 := by rw [hw1]; (repeat (first | with_reducible exact Below.refl _ _ | with_reducible assumption | with_reducible refine Below.drew ?_ | with_reducible refine bdrewN ?_ _ | ((with_reducible refine balloc ?_ ?_ _); (focus (first | with_reducible exact Nat.le_refl _ | (simp; done) | omega | (simp; omega) | exact Nat.le_refl _))) | ((with_reducible refine bset ?_ ?_ _); (focus (first | with_reducible exact Nat.le_refl _ | (simp; done) | omega | (simp; omega) | exact Nat.le_refl _)))))
  have z1 : w.heap.size + 1 ≤ w1.heap.size := by rw [hw1]; simp
  have e1 : Below w.heap.size w w1 := by rw [hw1]; (repeat (first | with_reducible exact Below.refl _ _ | with_reducible assumption | with_reducible refine Below.drew ?_ | with_reducible refine bdrewN ?_ _ | ((with_reducible refine balloc ?_ ?_ _); (focus (first | with_reducible exact Nat.le_refl _ | (simp; done) | omega | (simp; omega) | exact Nat.le_refl _))) | ((with_reducible refine bset ?_ ?_ _); (focus (first | with_reducible exact Nat.le_refl _ | (simp; done) | omega | (simp; omega) | exact Nat.le_refl _)))))
  have cI1 : w1.cell? ⟨w.heap.size, 0, none⟩ = some (.int .i64 s.ins) := by rw [hw1]; first | (simp; done) | go_simp
  have cO1 : w1.cell? ⟨w.heap.size, 1, none⟩ = some (.slice ao s.outs.length ko) := by rw [hw1]; first | (simp; done) | go_simp
  have cH1 : w1.cell? ⟨w.heap.size, 2, none⟩ = some (.slice ah s.hints.length kh) := by rw [hw1]; first | (simp; done) | go_simp
  have cC1 : w1.cell? ⟨w.heap.size, 3, none⟩ = some (.slice ac s.cons.length kc) := by rw [hw1]; first | (simp; done) | go_simp
  have tS1 := t.keep e1 (by omega)
  have tV1 := ti.keep e1 (by omega)
  clear hw1
  refine (check_impl o l h _ _ _ _ s lim _ xs _ tS1 (by omega) tV1 (by omega) ni nh no nc).mono ?_; rw [H1.out]; rintro e w2 ⟨rfl, f2⟩
  have b2 := b1.trans (f2.mono (by omega))
  have z2 := f2.size
  have cI2 := cell_keep f2 cI1
  have cO2 := cell_keep f2 cO1
  have cH2 := cell_keep f2 cH1
  have cC2 := cell_keep f2 cC1
  have tS2 := tS1.keep f2 (by omega)
  have tV2 := tV1.keep f2 (by omega)
  clear cI1 cO1 cH1 cC1 tS1 tV1
  go_wp2_with fail
  go_loopw [6, 16] (fun v i wr => ∃ k : Nat, k ≤ s.outs.length ∧ i = .int .i64 k ∧ Below w.heap.size w wr ∧ w.heap.size + 1 ≤ wr.heap.size ∧ wr.cell? ⟨w.heap.size, 0, none⟩ = some (.int .i64 s.ins) ∧ wr.cell? ⟨w.heap.size, 1, none⟩ = some (.slice ao s.outs.length ko) ∧ wr.cell? ⟨w.heap.size, 2, none⟩ = some (.slice ah s.hints.length kh) ∧ wr.cell? ⟨w.heap.size, 3, none⟩ = some (.slice ac s.cons.length kc) ∧ wr.ownsRow (w.heap.size + 1) 3 1 v k (((s.outs.take k).map (lval xs)).map (Value.int .i64))) (fun _ i _ => s.outs.length - (intOf i).toNat)
  case atStart => exact ⟨0, Nat.zero_le _, rfl, b2, by omega, cI2, cO2, cH2, cC2, World.ownsRow_nil _ _ _ _⟩
  case round =>
    clear cI2 cO2 cH2 cC2
    obtain ⟨k, hk, rfl, be, zz, cI, cO, cH, cC, hrow⟩ := hrel
    by_cases hlt : k < s.outs.length
    · obtain ⟨b, off, va, rfl, l1, m1, c0, ta⟩ := (tO.keep be hw).at hlt
      obtain ⟨x, kx, rfl, lx, bx⟩ := ta.shape
      have ti' := ti.keep be hl
      have HW := Lib.hid (HI.out _ (List.getElem_mem hlt))
      have bl : b < wr.heap.size := World.block_lt_of_cell? _ _ c0
      have HT : Hid ((((s.outs.take (k + 1)).map (lval xs)).map (Value.int .i64)) = (((s.outs.take k).map (lval xs)).map (Value.int .i64)) ++ [.int .i64 (lval xs s.outs[k])]) := Lib.hid (by rw [take_step (List.getElem?_eq_getElem hlt), List.map_append, List.map_append]; rfl)
      have lcI : w.heap.size < wr.heap.size := World.block_lt_of_cell? _ _ cI
      go_wp2_with fail
      refine name_call fun w1 hw1 => ?_
      have b1 : Below w.heap.size w w1 := by rw [hw1]; (repeat (first | with_reducible exact Below.refl _ _ | with_reducible assumption | with_reducible refine Below.drew ?_ | with_reducible refine bdrewN ?_ _ | ((with_reducible refine balloc ?_ ?_ _); (focus (first | with_reducible exact Nat.le_refl _ | (simp; done) | omega | (simp; omega) | exact Nat.le_refl _))) | ((with_reducible refine bset ?_ ?_ _); (focus (first | with_reducible exact Nat.le_refl _ | (simp; done) | omega | (simp; omega) | exact Nat.le_refl _)))))
      have z1 : wr.heap.size + 1 ≤ w1.heap.size := by rw [hw1]; simp
      have e1 : Below wr.heap.size wr w1 := by rw [hw1]; (repeat (first | with_reducible exact Below.refl _ _ | with_reducible assumption | with_reducible refine Below.drew ?_ | with_reducible refine bdrewN ?_ _ | ((with_reducible refine balloc ?_ ?_ _); (focus (first | with_reducible exact Nat.le_refl _ | (simp; done) | omega | (simp; omega) | exact Nat.le_refl _))) | ((with_reducible refine bset ?_ ?_ _); (focus (first | with_reducible exact Nat.le_refl _ | (simp; done) | omega | (simp; omega) | exact Nat.le_refl _)))))
      have cI1 := cell_keep e1 cI
      have cO1 := cell_keep e1 cO
      have cH1 := cell_keep e1 cH
      have cC1 := cell_keep e1 cC
      have tA1 := ta.keep e1 (by omega)
      have tV1 := ti'.keep e1 (by omega)
      clear hw1 lcI cI cO cH cC ta ti'
      have hrow1 := row_keep hrow e1
      clear hrow
      refine (valueFor_any o l h _ s.outs[k] lim _ xs _ tA1 (by omega) tV1 (by omega) H4.out HW.out).mono ?_; rintro e w2 ⟨rfl, f2⟩
      have b2 := b1.trans (f2.mono (by omega))
      have z2 := f2.size
      have cI2 := cell_keep f2 cI1
      have cO2 := cell_keep f2 cO1
      have cH2 := cell_keep f2 cH1
      have cC2 := cell_keep f2 cC1
      have tA2 := tA1.keep f2 (by omega)
      have tV2 := tV1.keep f2 (by omega)
      clear cI1 cO1 cH1 cC1 tA1 tV1
      have hrow2 := row_keep hrow1 f2
      clear hrow1
      generalize lval xs s.outs[k] = y at *
      have lw : w.heap.size < w2.heap.size := World.block_lt_of_cell? _ _ cI2
      go_wp2_with (at_builtin; refine wpList_append_own _ rfl _ _ 46 rfl (w.heap.size + 1) 3 i0 (.int .i64 0) 1 8 Try.underlying46 hi0 hz0 hz1 hz2 rfl (by decide) _ _ _ rfl (hrow2.alloc _) ⟨w2.heap.size, 0, none⟩ 1 1 [.int .i64 (y)] rfl rfl (cell_one_new' _ _ _) (by simp [Value.oneCell']) (by unfold maxLen; omega) (by omega) (by simp; omega) ?_; intro v' w5 hown' hgrow _)
      have eB : Below (w.heap.size + 1) (w2.alloc (.cells #[.int .i64 (y)] 3)) w5 := (Below.refl _ _).grown hgrow (by simp; omega) (fun j ej => (hrow2.lt j ej).1)
      have be5 : Below w.heap.size w w5 := (b2.alloc (by omega) (.cells #[.int .i64 (y)] 3)).trans (eB.mono (by omega))
      have z5 := hgrow.size
      simp only [World.size_alloc] at z5
      have kI := (eB.cell (p := ⟨w.heap.size, 0, none⟩) (Nat.lt_succ_self _)).trans (alloc_keep cI2)
      have kO := (eB.cell (p := ⟨w.heap.size, 1, none⟩) (Nat.lt_succ_self _)).trans (alloc_keep cO2)
      have kH := (eB.cell (p := ⟨w.heap.size, 2, none⟩) (Nat.lt_succ_self _)).trans (alloc_keep cH2)
      have kC := (eB.cell (p := ⟨w.heap.size, 3, none⟩) (Nat.lt_succ_self _)).trans (alloc_keep cC2)
      clear cI2 cO2 cH2 cC2 hrow2
      go_roundw
      case rel => exact ⟨k + 1, by omega, by go_num, be5, by omega, kI, kO, kH, kC, by rw [HT.out]; exact hown'⟩
      case measure => simp [intOf]; omega
    · obtain rfl : k = s.outs.length := by omega
      rw [List.take_length] at hrow
      have ht := (Nums.own (ts := s.outs.map (lval xs)) (by rw [List.length_map]; exact hrow) (fun x hx => by obtain ⟨q, _, rfl⟩ := List.mem_map.1 hx; have := lval_bd xs q; unfold Fits; omega)).mono (l' := w.heap.size) (h' := wr.heap.size) (by omega) (Nat.le_refl _)
      obtain ⟨g, cg, rfl, lg, bg⟩ := ht.shape
      clear hrow
      go_wp2_with fail
      go_ret2
      exact ⟨_, rfl, be, by rw [HR.out]; exact ht⟩

set_option maxRecDepth 100000 in
set_option maxHeartbeats 6400000 in
theorem outsOf_spec (o l h vi vo vh vc) (s : SysC) (lim : Nat) (v : Value) (xs : List Int) (w : World) (t : SysR o l h w vi vo vh vc s) (hw : h ≤ w.heap.size) (ti : Ints lim w v xs) (hl : lim ≤ w.heap.size) (ni : xs.length ≤ 1048576) (nh : s.hints.length ≤ 1048576) (no : s.outs.length ≤ 1048576) (nc : s.cons.length ≤ 1048576) :
    Calls Try.prog 32 #[.agg #[vi, vo, vh, vc], v] w fun e w' => ∃ u, e = .returned (.tuple #[u, .bool (checkB s xs)]) ∧ Below w.heap.size w w' ∧ Nums true w.heap.size w'.heap.size w' u (outsL s xs) := by
  obtain ⟨tO, tH, tC⟩ := t.parts
  obtain ⟨ao, ko, ah, kh, ac, kc, rfl, rfl, rfl, rfl, lo, bo, lh, bh, lc, bc, fi⟩ := t.shape
  obtain ⟨ai, ki, rfl, lai, bai⟩ := ti.shape
  obtain ⟨i0, hi0, hz0, hz1, hz2⟩ := info_parts intInfo
  cases h1 : checkB s xs
  · have HR : Hid (outsL s xs = []) := Lib.hid (if_neg (by rw [h1]; simp))
    have H1 := Lib.hid h1
    clear h1
    go_enter Try.func32, Try.ntmps32
    go_wp2_with fail
    refine name_call fun w1 hw1 => ?_
    have b1 : Below w.heap.size w w1 := by rw [hw1]; (repeat (first | with_reducible exact Below.refl _ _ | with_reducible assumption | with_reducible refine Below.drew ?_ | with_reducible refine bdrewN ?_ _ | ((with_reducible refine balloc ?_ ?_ _); (focus (first | with_reducible exact Nat.le_refl _ | (simp; done) | omega | (simp; omega) | exact Nat.le_refl _))) | ((with_reducible refine bset ?_ ?_ _); (focus (first | with_reducible exact Nat.le_refl _ | (simp; done) | omega | (simp; omega) | exact Nat.le_refl _)))))
    have z1 : w.heap.size + 1 ≤ w1.heap.size := by rw [hw1]; simp
    have e1 : Below w.heap.size w w1 := by rw [hw1]; (repeat (first | with_reducible exact Below.refl _ _ | with_reducible assumption | with_reducible refine Below.drew ?_ | with_reducible refine bdrewN ?_ _ | ((with_reducible refine balloc ?_ ?_ _); (focus (first | with_reducible exact Nat.le_refl _ | (simp; done) | omega | (simp; omega) | exact Nat.le_refl _))) | ((with_reducible refine bset ?_ ?_ _); (focus (first | with_reducible exact Nat.le_refl _ | (simp; done) | omega | (simp; omega) | exact Nat.le_refl _)))))
    have cI1 : w1.cell? ⟨w.heap.size, 0, none⟩ = some (.int .i64 s.ins) := by rw [hw1]; first | (simp; done) | go_simp
    have cO1 : w1.cell? ⟨w.heap.size, 1, none⟩ = some (.slice ao s.outs.length ko) := by rw [hw1]; first | (simp; done) | go_simp
    have cH1 : w1.cell? ⟨w.heap.size, 2, none⟩ = some (.slice ah s.hints.length kh) := by rw [hw1]; first | (simp; done) | go_simp
    have cC1 : w1.cell? ⟨w.heap.size, 3, none⟩ = some (.slice ac s.cons.length kc) := by rw [hw1]; first | (simp; done) | go_simp
    have tS1 := t.keep e1 (by omega)
    have tV1 := ti.keep e1 (by omega)
    clear hw1
    refine (check_spec o l h _ _ _ _ s lim _ xs _ tS1 (by omega) tV1 (by omega) ni nh no nc).mono ?_; rw [H1.out]; rintro e w2 ⟨rfl, f2⟩
    have b2 := b1.trans (f2.mono (by omega))
    have z2 := f2.size
    have cI2 := cell_keep f2 cI1
    have cO2 := cell_keep f2 cO1
    have cH2 := cell_keep f2 cH1
    have cC2 := cell_keep f2 cC1
    have tS2 := tS1.keep f2 (by omega)
    have tV2 := tV1.keep f2 (by omega)
    clear cI1 cO1 cH1 cC1 tS1 tV1
    go_wp2_with fail
    go_ret2
    exact ⟨_, rfl, b2, by rw [HR.out]; exact Nums.nil _ _ _ _⟩
  obtain ⟨h2, h3, h4⟩ := checkB_facts h1
  have HR : Hid (outsL s xs = s.outs.map (lval xs)) := Lib.hid (if_pos h1)
  have HI := Lib.hid (outs_in h2 h3)
  have H1 := Lib.hid h1
  have H4 := Lib.hid h4
  clear h1 h2 h3 h4
  go_enter Try.func32, Try.ntmps32
  go_wp2_with fail
  refine name_call fun w1 hw1 => ?_
  have b1 : Below w.heap.size w w1 := by rw [hw1]; (repeat (first | with_reducible exact Below.refl _ _ | with_reducible assumption | with_reducible refine Below.drew ?_ | with_reducible refine bdrewN ?_ _ | ((with_reducible refine balloc ?_ ?_ _); (focus (first | with_reducible exact Nat.le_refl _ | (simp; done) | omega | (simp; omega) | exact Nat.le_refl _))) | ((with_reducible refine bset ?_ ?_ _); (focus (first | with_reducible exact Nat.le_refl _ | (simp; done) | omega | (simp; omega) | exact Nat.le_refl _)))))
  have z1 : w.heap.size + 1 ≤ w1.heap.size := by rw [hw1]; simp
  have e1 : Below w.heap.size w w1 := by rw [hw1]; (repeat (first | with_reducible exact Below.refl _ _ | with_reducible assumption | with_reducible refine Below.drew ?_ | with_reducible refine bdrewN ?_ _ | ((with_reducible refine balloc ?_ ?_ _); (focus (first | with_reducible exact Nat.le_refl _ | (simp; done) | omega | (simp; omega) | exact Nat.le_refl _))) | ((with_reducible refine bset ?_ ?_ _); (focus (first | with_reducible exact Nat.le_refl _ | (simp; done) | omega | (simp; omega) | exact Nat.le_refl _)))))
  have cI1 : w1.cell? ⟨w.heap.size, 0, none⟩ = some (.int .i64 s.ins) := by rw [hw1]; first | (simp; done) | go_simp
  have cO1 : w1.cell? ⟨w.heap.size, 1, none⟩ = some (.slice ao s.outs.length ko) := by rw [hw1]; first | (simp; done) | go_simp
  have cH1 : w1.cell? ⟨w.heap.size, 2, none⟩ = some (.slice ah s.hints.length kh) := by rw [hw1]; first | (simp; done) | go_simp
  have cC1 : w1.cell? ⟨w.heap.size, 3, none⟩ = some (.slice ac s.cons.length kc) := by rw [hw1]; first | (simp; done) | go_simp
  have tS1 := t.keep e1 (by omega)
  have tV1 := ti.keep e1 (by omega)
  clear hw1
  refine (check_spec o l h _ _ _ _ s lim _ xs _ tS1 (by omega) tV1 (by omega) ni nh no nc).mono ?_; rw [H1.out]; rintro e w2 ⟨rfl, f2⟩
  have b2 := b1.trans (f2.mono (by omega))
  have z2 := f2.size
  have cI2 := cell_keep f2 cI1
  have cO2 := cell_keep f2 cO1
  have cH2 := cell_keep f2 cH1
  have cC2 := cell_keep f2 cC1
  have tS2 := tS1.keep f2 (by omega)
  have tV2 := tV1.keep f2 (by omega)
  clear cI1 cO1 cH1 cC1 tS1 tV1
  go_wp2_with fail
  go_loopw [6, 7] (fun v i wr => ∃ k : Nat, k ≤ s.outs.length ∧ i = .int .i64 k ∧ Below w.heap.size w wr ∧ w.heap.size + 1 ≤ wr.heap.size ∧ wr.cell? ⟨w.heap.size, 0, none⟩ = some (.int .i64 s.ins) ∧ wr.cell? ⟨w.heap.size, 1, none⟩ = some (.slice ao s.outs.length ko) ∧ wr.cell? ⟨w.heap.size, 2, none⟩ = some (.slice ah s.hints.length kh) ∧ wr.cell? ⟨w.heap.size, 3, none⟩ = some (.slice ac s.cons.length kc) ∧ wr.ownsRow (w.heap.size + 1) 3 1 v k (((s.outs.take k).map (lval xs)).map (Value.int .i64))) (fun _ i _ => s.outs.length - (intOf i).toNat)
  case atStart => exact ⟨0, Nat.zero_le _, rfl, b2, by omega, cI2, cO2, cH2, cC2, World.ownsRow_nil _ _ _ _⟩
  case round =>
    clear cI2 cO2 cH2 cC2
    obtain ⟨k, hk, rfl, be, zz, cI, cO, cH, cC, hrow⟩ := hrel
    by_cases hlt : k < s.outs.length
    · obtain ⟨b, off, va, rfl, l1, m1, c0, ta⟩ := (tO.keep be hw).at hlt
      obtain ⟨x, kx, rfl, lx, bx⟩ := ta.shape
      have ti' := ti.keep be hl
      have HW := Lib.hid (HI.out _ (List.getElem_mem hlt))
      have bl : b < wr.heap.size := World.block_lt_of_cell? _ _ c0
      have HT : Hid ((((s.outs.take (k + 1)).map (lval xs)).map (Value.int .i64)) = (((s.outs.take k).map (lval xs)).map (Value.int .i64)) ++ [.int .i64 (lval xs s.outs[k])]) := Lib.hid (by rw [take_step (List.getElem?_eq_getElem hlt), List.map_append, List.map_append]; rfl)
      have lcI : w.heap.size < wr.heap.size := World.block_lt_of_cell? _ _ cI
      go_wp2_with fail
      refine name_call fun w1 hw1 => ?_
      have b1 : Below w.heap.size w w1 := by rw [hw1]; (repeat (first | with_reducible exact Below.refl _ _ | with_reducible assumption | with_reducible refine Below.drew ?_ | with_reducible refine bdrewN ?_ _ | ((with_reducible refine balloc ?_ ?_ _); (focus (first | with_reducible exact Nat.le_refl _ | (simp; done) | omega | (simp; omega) | exact Nat.le_refl _))) | ((with_reducible refine bset ?_ ?_ _); (focus (first | with_reducible exact Nat.le_refl _ | (simp; done) | omega | (simp; omega) | exact Nat.le_refl _)))))
      have z1 : wr.heap.size + 0 ≤ w1.heap.size := by rw [hw1]; simp
      have e1 : Below wr.heap.size wr w1 := by rw [hw1]; (repeat (first | with_reducible exact Below.refl _ _ | with_reducible assumption | with_reducible refine Below.drew ?_ | with_reducible refine bdrewN ?_ _ | ((with_reducible refine balloc ?_ ?_ _); (focus (first | with_reducible exact Nat.le_refl _ | (simp; done) | omega | (simp; omega) | exact Nat.le_refl _))) | ((with_reducible refine bset ?_ ?_ _); (focus (first | with_reducible exact Nat.le_refl _ | (simp; done) | omega | (simp; omega) | exact Nat.le_refl _)))))
      have cI1 := cell_keep e1 cI
      have cO1 := cell_keep e1 cO
      have cH1 := cell_keep e1 cH
      have cC1 := cell_keep e1 cC
      have tA1 := ta.keep e1 (by omega)
      have tV1 := ti'.keep e1 (by omega)
      clear hw1 lcI cI cO cH cC ta ti'
      have hrow1 := row_keep hrow e1
      clear hrow
      refine (l2val_any o l h _ s.outs[k] lim _ xs _ tA1 (by omega) tV1 (by omega) H4.out HW.out).mono ?_; rintro e w2 ⟨rfl, f2⟩
      have b2 := b1.trans (f2.mono (by omega))
      have z2 := f2.size
      have cI2 := cell_keep f2 cI1
      have cO2 := cell_keep f2 cO1
      have cH2 := cell_keep f2 cH1
      have cC2 := cell_keep f2 cC1
      have tA2 := tA1.keep f2 (by omega)
      have tV2 := tV1.keep f2 (by omega)
      clear cI1 cO1 cH1 cC1 tA1 tV1
      have hrow2 := row_keep hrow1 f2
      clear hrow1
      generalize lval xs s.outs[k] = y at *
      have lw : w.heap.size < w2.heap.size := World.block_lt_of_cell? _ _ cI2
      go_wp2_with (at_builtin; refine wpList_append_own _ rfl _ _ 46 rfl (w.heap.size + 1) 3 i0 (.int .i64 0) 1 8 Try.underlying46 hi0 hz0 hz1 hz2 rfl (by decide) _ _ _ rfl (hrow2.alloc _) ⟨w2.heap.size, 0, none⟩ 1 1 [.int .i64 (y)] rfl rfl (cell_one_new' _ _ _) (by simp [Value.oneCell']) (by unfold maxLen; omega) (by omega) (by simp; omega) ?_; intro v' w5 hown' hgrow _)
      have eB : Below (w.heap.size + 1) (w2.alloc (.cells #[.int .i64 (y)] 3)) w5 := (Below.refl _ _).grown hgrow (by simp; omega) (fun j ej => (hrow2.lt j ej).1)
      have be5 : Below w.heap.size w w5 := (b2.alloc (by omega) (.cells #[.int .i64 (y)] 3)).trans (eB.mono (by omega))
      have z5 := hgrow.size
      simp only [World.size_alloc] at z5
      have kI := (eB.cell (p := ⟨w.heap.size, 0, none⟩) (Nat.lt_succ_self _)).trans (alloc_keep cI2)
      have kO := (eB.cell (p := ⟨w.heap.size, 1, none⟩) (Nat.lt_succ_self _)).trans (alloc_keep cO2)
      have kH := (eB.cell (p := ⟨w.heap.size, 2, none⟩) (Nat.lt_succ_self _)).trans (alloc_keep cH2)
      have kC := (eB.cell (p := ⟨w.heap.size, 3, none⟩) (Nat.lt_succ_self _)).trans (alloc_keep cC2)
      clear cI2 cO2 cH2 cC2 hrow2
      go_roundw
      case rel => exact ⟨k + 1, by omega, by go_num, be5, by omega, kI, kO, kH, kC, by rw [HT.out]; exact hown'⟩
      case measure => simp [intOf]; omega
    · obtain rfl : k = s.outs.length := by omega
      rw [List.take_length] at hrow
      have ht := (Nums.own (ts := s.outs.map (lval xs)) (by rw [List.length_map]; exact hrow) (fun x hx => by obtain ⟨q, _, rfl⟩ := List.mem_map.1 hx; have := lval_bd xs q; unfold Fits; omega)).mono (l' := w.heap.size) (h' := wr.heap.size) (by omega) (Nat.le_refl _)
      obtain ⟨g, cg, rfl, lg, bg⟩ := ht.shape
      clear hrow
      go_wp2_with fail
      go_ret2
      exact ⟨_, rfl, be, by rw [HR.out]; exact ht⟩

set_option maxRecDepth 100000 in
set_option maxHeartbeats 6400000 in
theorem failing_impl (o l h vi vo vh vc) (s : SysC) (lim : Nat) (v : Value) (xs : List Int) (w : World) (t : SysR o l h w vi vo vh vc s) (hw : h ≤ w.heap.size) (ti : Ints lim w v xs) (hl : lim ≤ w.heap.size) (ni : xs.length ≤ 1048576) (nh : s.hints.length ≤ 1048576) (no : s.outs.length ≤ 1048576) (nc : s.cons.length ≤ 1048576) :
    Calls Try.prog 47 #[.agg #[vi, vo, vh, vc], v] w fun e w' => ∃ u, e = .returned u ∧ Below w.heap.size w w' ∧ Nums true w.heap.size w'.heap.size w' u (failing s xs) := by
  obtain ⟨tO, tH, tC⟩ := t.parts
  obtain ⟨ao, ko, ah, kh, ac, kc, rfl, rfl, rfl, rfl, lo, bo, lh, bh, lc, bc, fi⟩ := t.shape
  obtain ⟨ai, ki, rfl, lai, bai⟩ := ti.shape
  obtain ⟨i0, hi0, hz0, hz1, hz2⟩ := info_parts intInfo
  cases h1 : sysOk s
  · have HR : Hid (failing s xs = []) := Lib.hid (if_neg (by rw [h1]; simp))
    have H1 := Lib.hid h1
    clear h1
    go_enter Try.func47, Try.ntmps47
    go_wp2_with fail
    refine name_call fun w1 hw1 => ?_
    have b1 : Below w.heap.size w w1 := by rw [hw1]; (repeat (first | with_reducible exact Below.refl _ _ | with_reducible assumption | with_reducible refine Below.drew ?_ | with_reducible refine bdrewN ?_ _ | ((with_reducible refine balloc ?_ ?_ _); (focus (first | with_reducible exact Nat.le_refl _ | (simp; done) | omega | (simp; omega) | exact Nat.le_refl _))) | ((with_reducible refine bset ?_ ?_ _); (focus (first | with_reducible exact Nat.le_refl _ | (simp; done) | omega | (simp; omega) | exact Nat.le_refl _)))))
    have z1 : w.heap.size + 1 ≤ w1.heap.size := by rw [hw1]; simp
    have e1 : Below w.heap.size w w1 := by rw [hw1]; (repeat (first | with_reducible exact Below.refl _ _ | with_reducible assumption | with_reducible refine Below.drew ?_ | with_reducible refine bdrewN ?_ _ | ((with_reducible refine balloc ?_ ?_ _); (focus (first | with_reducible exact Nat.le_refl _ | (simp; done) | omega | (simp; omega) | exact Nat.le_refl _))) | ((with_reducible refine bset ?_ ?_ _); (focus (first | with_reducible exact Nat.le_refl _ | (simp; done) | omega | (simp; omega) | exact Nat.le_refl _)))))
    have cI1 : w1.cell? ⟨w.heap.size, 0, none⟩ = some (.int .i64 s.ins) := by rw [hw1]; first | (simp; done) | go_simp
    have cO1 : w1.cell? ⟨w.heap.size, 1, none⟩ = some (.slice ao s.outs.length ko) := by rw [hw1]; first | (simp; done) | go_simp
    have cH1 : w1.cell? ⟨w.heap.size, 2, none⟩ = some (.slice ah s.hints.length kh) := by rw [hw1]; first | (simp; done) | go_simp
    have cC1 : w1.cell? ⟨w.heap.size, 3, none⟩ = some (.slice ac s.cons.length kc) := by rw [hw1]; first | (simp; done) | go_simp
    have tS1 := t.keep e1 (by omega)
    have tV1 := ti.keep e1 (by omega)
    clear hw1
    refine (sysOk_implb o l h _ _ _ _ s _ tS1 (by omega) nh no nc _ H1.out).mono ?_; rintro e w2 ⟨rfl, f2⟩
    have b2 := b1.trans (f2.mono (by omega))
    have z2 := f2.size
    have cI2 := cell_keep f2 cI1
    have cO2 := cell_keep f2 cO1
    have cH2 := cell_keep f2 cH1
    have cC2 := cell_keep f2 cC1
    have tS2 := tS1.keep f2 (by omega)
    have tV2 := tV1.keep f2 (by omega)
    clear cI1 cO1 cH1 cC1 tS1 tV1
    go_wp2_with fail
    go_ret
    exact ⟨_, rfl, b2, by rw [HR.out]; exact Nums.nil _ _ _ _⟩
  obtain ⟨i1, i2, i3, i4, i5⟩ := limB_facts (sysOk_limB h1)
  by_cases h2 : (xs.length : Int) = varsN s
  case' neg =>
    have HR : Hid (failing s xs = []) := Lib.hid (if_neg (by rw [h1]; simp [h2]))
    have H1 := Lib.hid h1
    have e2 : ((xs.length : Int) != 1 + s.ins + (s.hints.length : Int)) = true := by unfold varsN at h2; simpa using h2
    clear h1 h2
    go_enter Try.func47, Try.ntmps47
    go_wp2_with fail
    refine name_call fun w1 hw1 => ?_
    have b1 : Below w.heap.size w w1 := by rw [hw1]; (repeat (first | with_reducible exact Below.refl _ _ | with_reducible assumption | with_reducible refine Below.drew ?_ | with_reducible refine bdrewN ?_ _ | ((with_reducible refine balloc ?_ ?_ _); (focus (first | with_reducible exact Nat.le_refl _ | (simp; done) | omega | (simp; omega) | exact Nat.le_refl _))) | ((with_reducible refine bset ?_ ?_ _); (focus (first | with_reducible exact Nat.le_refl _ | (simp; done) | omega | (simp; omega) | exact Nat.le_refl _)))))
    have z1 : w.heap.size + 1 ≤ w1.heap.size := by rw [hw1]; simp
    have e1 : Below w.heap.size w w1 := by rw [hw1]; (repeat (first | with_reducible exact Below.refl _ _ | with_reducible assumption | with_reducible refine Below.drew ?_ | with_reducible refine bdrewN ?_ _ | ((with_reducible refine balloc ?_ ?_ _); (focus (first | with_reducible exact Nat.le_refl _ | (simp; done) | omega | (simp; omega) | exact Nat.le_refl _))) | ((with_reducible refine bset ?_ ?_ _); (focus (first | with_reducible exact Nat.le_refl _ | (simp; done) | omega | (simp; omega) | exact Nat.le_refl _)))))
    have cI1 : w1.cell? ⟨w.heap.size, 0, none⟩ = some (.int .i64 s.ins) := by rw [hw1]; first | (simp; done) | go_simp
    have cO1 : w1.cell? ⟨w.heap.size, 1, none⟩ = some (.slice ao s.outs.length ko) := by rw [hw1]; first | (simp; done) | go_simp
    have cH1 : w1.cell? ⟨w.heap.size, 2, none⟩ = some (.slice ah s.hints.length kh) := by rw [hw1]; first | (simp; done) | go_simp
    have cC1 : w1.cell? ⟨w.heap.size, 3, none⟩ = some (.slice ac s.cons.length kc) := by rw [hw1]; first | (simp; done) | go_simp
    have tS1 := t.keep e1 (by omega)
    have tV1 := ti.keep e1 (by omega)
    clear hw1
    refine (sysOk_implb o l h _ _ _ _ s _ tS1 (by omega) nh no nc _ H1.out).mono ?_; rintro e w2 ⟨rfl, f2⟩
    have b2 := b1.trans (f2.mono (by omega))
    have z2 := f2.size
    have cI2 := cell_keep f2 cI1
    have cO2 := cell_keep f2 cO1
    have cH2 := cell_keep f2 cH1
    have cC2 := cell_keep f2 cC1
    have tS2 := tS1.keep f2 (by omega)
    have tV2 := tV1.keep f2 (by omega)
    clear cI1 cO1 cH1 cC1 tS1 tV1
    have lcI2 : w.heap.size < w2.heap.size := World.block_lt_of_cell? _ _ cI2
    go_wp2_with fail
    refine name_call fun w3 hw3 => ?_
    have b3 : Below w.heap.size w w3 := by rw [hw3]; (repeat (first | with_reducible exact Below.refl _ _ | with_reducible assumption | with_reducible refine Below.drew ?_ | with_reducible refine bdrewN ?_ _ | ((with_reducible refine balloc ?_ ?_ _); (focus (first | with_reducible exact Nat.le_refl _ | (simp; done) | omega | (simp; omega) | exact Nat.le_refl _))) | ((with_reducible refine bset ?_ ?_ _); (focus (first | with_reducible exact Nat.le_refl _ | (simp; done) | omega | (simp; omega) | exact Nat.le_refl _)))))
    have z3 : w2.heap.size + 0 ≤ w3.heap.size := by rw [hw3]; simp
    have e3 : Below w2.heap.size w2 w3 := by rw [hw3]; (repeat (first | with_reducible exact Below.refl _ _ | with_reducible assumption | with_reducible refine Below.drew ?_ | with_reducible refine bdrewN ?_ _ | ((with_reducible refine balloc ?_ ?_ _); (focus (first | with_reducible exact Nat.le_refl _ | (simp; done) | omega | (simp; omega) | exact Nat.le_refl _))) | ((with_reducible refine bset ?_ ?_ _); (focus (first | with_reducible exact Nat.le_refl _ | (simp; done) | omega | (simp; omega) | exact Nat.le_refl _)))))
    have cI3 := cell_keep e3 cI2
    have cO3 := cell_keep e3 cO2
    have cH3 := cell_keep e3 cH2
    have cC3 := cell_keep e3 cC2
    have tS3 := tS2.keep e3 (by omega)
    have tV3 := tV2.keep e3 (by omega)
    clear hw3 lcI2 cI2 cO2 cH2 cC2 tS2 tV2
    refine (vars_any s _ _ _ _ _ _ _ i1 i2 nh).mono ?_; rintro e w4 ⟨rfl, f4⟩
    have b4 := b3.trans (f4.mono (by omega))
    have z4 := f4.size
    have cI4 := cell_keep f4 cI3
    have cO4 := cell_keep f4 cO3
    have cH4 := cell_keep f4 cH3
    have cC4 := cell_keep f4 cC3
    have tS4 := tS3.keep f4 (by omega)
    have tV4 := tV3.keep f4 (by omega)
    clear cI3 cO3 cH3 cC3 tS3 tV3
    go_wp2_with fail
    go_ret
    exact ⟨_, rfl, b4, by rw [HR.out]; exact Nums.nil _ _ _ _⟩
  cases h4 : isAsg xs
  · have H4 := Lib.hid h4
    clear h4
    have HR : Hid (failing s xs = failL (fitF xs) 0 s.cons) := Lib.hid (if_pos ⟨h1, h2⟩)
    have HI := Lib.hid (cons_in h1 h2)
    have H1 := Lib.hid h1
    have e2 : ((xs.length : Int) != 1 + s.ins + (s.hints.length : Int)) = false := by unfold varsN at h2; simpa using h2
    clear h1 h2
    go_enter Try.func47, Try.ntmps47
    go_wp2_with fail
    refine name_call fun w1 hw1 => ?_
    have b1 : Below w.heap.size w w1 := by rw [hw1]; (repeat (first | with_reducible exact Below.refl _ _ | with_reducible assumption | with_reducible refine Below.drew ?_ | with_reducible refine bdrewN ?_ _ | ((with_reducible refine balloc ?_ ?_ _); (focus (first | with_reducible exact Nat.le_refl _ | (simp; done) | omega | (simp; omega) | exact Nat.le_refl _))) | ((with_reducible refine bset ?_ ?_ _); (focus (first | with_reducible exact Nat.le_refl _ | (simp; done) | omega | (simp; omega) | exact Nat.le_refl _)))))
    have z1 : w.heap.size + 1 ≤ w1.heap.size := by rw [hw1]; simp
    have e1 : Below w.heap.size w w1 := by rw [hw1]; (repeat (first | with_reducible exact Below.refl _ _ | with_reducible assumption | with_reducible refine Below.drew ?_ | with_reducible refine bdrewN ?_ _ | ((with_reducible refine balloc ?_ ?_ _); (focus (first | with_reducible exact Nat.le_refl _ | (simp; done) | omega | (simp; omega) | exact Nat.le_refl _))) | ((with_reducible refine bset ?_ ?_ _); (focus (first | with_reducible exact Nat.le_refl _ | (simp; done) | omega | (simp; omega) | exact Nat.le_refl _)))))
    have cI1 : w1.cell? ⟨w.heap.size, 0, none⟩ = some (.int .i64 s.ins) := by rw [hw1]; first | (simp; done) | go_simp
    have cO1 : w1.cell? ⟨w.heap.size, 1, none⟩ = some (.slice ao s.outs.length ko) := by rw [hw1]; first | (simp; done) | go_simp
    have cH1 : w1.cell? ⟨w.heap.size, 2, none⟩ = some (.slice ah s.hints.length kh) := by rw [hw1]; first | (simp; done) | go_simp
    have cC1 : w1.cell? ⟨w.heap.size, 3, none⟩ = some (.slice ac s.cons.length kc) := by rw [hw1]; first | (simp; done) | go_simp
    have tS1 := t.keep e1 (by omega)
    have tV1 := ti.keep e1 (by omega)
    clear hw1
    refine (sysOk_implb o l h _ _ _ _ s _ tS1 (by omega) nh no nc _ H1.out).mono ?_; rintro e w2 ⟨rfl, f2⟩
    have b2 := b1.trans (f2.mono (by omega))
    have z2 := f2.size
    have cI2 := cell_keep f2 cI1
    have cO2 := cell_keep f2 cO1
    have cH2 := cell_keep f2 cH1
    have cC2 := cell_keep f2 cC1
    have tS2 := tS1.keep f2 (by omega)
    have tV2 := tV1.keep f2 (by omega)
    clear cI1 cO1 cH1 cC1 tS1 tV1
    have lcI2 : w.heap.size < w2.heap.size := World.block_lt_of_cell? _ _ cI2
    go_wp2_with fail
    refine name_call fun w3 hw3 => ?_
    have b3 : Below w.heap.size w w3 := by rw [hw3]; (repeat (first | with_reducible exact Below.refl _ _ | with_reducible assumption | with_reducible refine Below.drew ?_ | with_reducible refine bdrewN ?_ _ | ((with_reducible refine balloc ?_ ?_ _); (focus (first | with_reducible exact Nat.le_refl _ | (simp; done) | omega | (simp; omega) | exact Nat.le_refl _))) | ((with_reducible refine bset ?_ ?_ _); (focus (first | with_reducible exact Nat.le_refl _ | (simp; done) | omega | (simp; omega) | exact Nat.le_refl _)))))
    have z3 : w2.heap.size + 0 ≤ w3.heap.size := by rw [hw3]; simp
    have e3 : Below w2.heap.size w2 w3 := by rw [hw3]; (repeat (first | with_reducible exact Below.refl _ _ | with_reducible assumption | with_reducible refine Below.drew ?_ | with_reducible refine bdrewN ?_ _ | ((with_reducible refine balloc ?_ ?_ _); (focus (first | with_reducible exact Nat.le_refl _ | (simp; done) | omega | (simp; omega) | exact Nat.le_refl _))) | ((with_reducible refine bset ?_ ?_ _); (focus (first | with_reducible exact Nat.le_refl _ | (simp; done) | omega | (simp; omega) | exact Nat.le_refl _)))))
    have cI3 := cell_keep e3 cI2
    have cO3 := cell_keep e3 cO2
    have cH3 := cell_keep e3 cH2
    have cC3 := cell_keep e3 cC2
    have tS3 := tS2.keep e3 (by omega)
    have tV3 := tV2.keep e3 (by omega)
    clear hw3 lcI2 cI2 cO2 cH2 cC2 tS2 tV2
    refine (vars_any s _ _ _ _ _ _ _ i1 i2 nh).mono ?_; rintro e w4 ⟨rfl, f4⟩
    have b4 := b3.trans (f4.mono (by omega))
    have z4 := f4.size
    have cI4 := cell_keep f4 cI3
    have cO4 := cell_keep f4 cO3
    have cH4 := cell_keep f4 cH3
    have cC4 := cell_keep f4 cC3
    have tS4 := tS3.keep f4 (by omega)
    have tV4 := tV3.keep f4 (by omega)
    clear cI3 cO3 cH3 cC3 tS3 tV3
    have lcI4 : w.heap.size < w4.heap.size := World.block_lt_of_cell? _ _ cI4
    go_wp2_with fail
    refine name_call fun w5 hw5 => ?_
    have b5 : Below w.heap.size w w5 := by rw [hw5]; (repeat (first | with_reducible exact Below.refl _ _ | with_reducible assumption | with_reducible refine Below.drew ?_ | with_reducible refine bdrewN ?_ _ | ((with_reducible refine balloc ?_ ?_ _); (focus (first | with_reducible exact Nat.le_refl _ | (simp; done) | omega | (simp; omega) | exact Nat.le_refl _))) | ((with_reducible refine bset ?_ ?_ _); (focus (first | with_reducible exact Nat.le_refl _ | (simp; done) | omega | (simp; omega) | exact Nat.le_refl _)))))
    have z5 : w4.heap.size + 0 ≤ w5.heap.size := by rw [hw5]; simp
    have e5 : Below w4.heap.size w4 w5 := by rw [hw5]; (repeat (first | with_reducible exact Below.refl _ _ | with_reducible assumption | with_reducible refine Below.drew ?_ | with_reducible refine bdrewN ?_ _ | ((with_reducible refine balloc ?_ ?_ _); (focus (first | with_reducible exact Nat.le_refl _ | (simp; done) | omega | (simp; omega) | exact Nat.le_refl _))) | ((with_reducible refine bset ?_ ?_ _); (focus (first | with_reducible exact Nat.le_refl _ | (simp; done) | omega | (simp; omega) | exact Nat.le_refl _)))))
    have cI5 := cell_keep e5 cI4
    have cO5 := cell_keep e5 cO4
    have cH5 := cell_keep e5 cH4
    have cC5 := cell_keep e5 cC4
    have tS5 := tS4.keep e5 (by omega)
    have tV5 := tV4.keep e5 (by omega)
    clear hw5 lcI4 cI4 cO4 cH4 cC4 tS4 tV4
    refine (asg_impl lim _ xs _ tV5).mono ?_; rw [H4.out]; rintro e w' ⟨rfl, rfl⟩
    go_wp2_with fail
    clear e2
    go_loopw [6, 24] (fun v i wr => ∃ k : Nat, k ≤ s.cons.length ∧ i = .int .i64 k ∧ Below w.heap.size w wr ∧ w.heap.size + 1 ≤ wr.heap.size ∧ wr.cell? ⟨w.heap.size, 0, none⟩ = some (.int .i64 s.ins) ∧ wr.cell? ⟨w.heap.size, 1, none⟩ = some (.slice ao s.outs.length ko) ∧ wr.cell? ⟨w.heap.size, 2, none⟩ = some (.slice ah s.hints.length kh) ∧ wr.cell? ⟨w.heap.size, 3, none⟩ = some (.slice ac s.cons.length kc) ∧ wr.ownsRow (w.heap.size + 1) 3 1 v (failL (fitF xs) 0 (s.cons.take k)).length ((failL (fitF xs) 0 (s.cons.take k)).map (Value.int .i64))) (fun _ i _ => s.cons.length - (intOf i).toNat)
    case atStart => exact ⟨0, Nat.zero_le _, rfl, b5, by omega, cI5, cO5, cH5, cC5, World.ownsRow_nil _ _ _ _⟩
    case round =>
      clear cI5 cO5 cH5 cC5
      obtain ⟨k, hk, rfl, be, zz, cI, cO, cH, cC, hrow⟩ := hrel
      by_cases hlt : k < s.cons.length
      · obtain ⟨b, off, va, vb, vc, rfl, l1, m1, c0, c1, c2, ta, tb, tc⟩ := (tC.keep be hw).at hlt
        obtain ⟨x, kx, rfl, lx, bx⟩ := ta.shape
        obtain ⟨y, ky, rfl, ly, by'⟩ := tb.shape
        obtain ⟨z, kz, rfl, lz, bz'⟩ := tc.shape
        have ti' := ti.keep be hl
        have HW := Lib.hid (HI.out _ (List.getElem_mem hlt))
        have bl : b < wr.heap.size := World.block_lt_of_cell? _ _ c0
        have lenF : (failL (fitF xs) 0 (s.cons.take k)).length ≤ k := Nat.le_trans (failL_len _ _ _) (by simp; omega)
        have HT := Lib.hid (failL_step (f := fitF xs) hlt false (by simp [fitF, H4.out]))
        have HH : Hid (conHold xs s.cons[k] = false) := Lib.hid (by simp [conHold, H4.out])
        go_upto_region 9 with fail
        have lcI : w.heap.size < wr.heap.size := World.block_lt_of_cell? _ _ cI
        refine name_wp fun wq1 hwq1 => ?_
        have bq1 : Below w.heap.size w wq1 := by rw [hwq1]; (repeat (first | with_reducible exact Below.refl _ _ | with_reducible assumption | with_reducible refine Below.drew ?_ | with_reducible refine bdrewN ?_ _ | ((with_reducible refine balloc ?_ ?_ _); (focus (first | with_reducible exact Nat.le_refl _ | (simp; done) | omega | (simp; omega) | exact Nat.le_refl _))) | ((with_reducible refine bset ?_ ?_ _); (focus (first | with_reducible exact Nat.le_refl _ | (simp; done) | omega | (simp; omega) | exact Nat.le_refl _)))))
        have zq1 : wr.heap.size + 1 ≤ wq1.heap.size := by rw [hwq1]; simp
        have eq1 : Below wr.heap.size wr wq1 := by rw [hwq1]; (repeat (first | with_reducible exact Below.refl _ _ | with_reducible assumption | with_reducible refine Below.drew ?_ | with_reducible refine bdrewN ?_ _ | ((with_reducible refine balloc ?_ ?_ _); (focus (first | with_reducible exact Nat.le_refl _ | (simp; done) | omega | (simp; omega) | exact Nat.le_refl _))) | ((with_reducible refine bset ?_ ?_ _); (focus (first | with_reducible exact Nat.le_refl _ | (simp; done) | omega | (simp; omega) | exact Nat.le_refl _)))))
        have cIq1 := cell_keep eq1 cI
        have cOq1 := cell_keep eq1 cO
        have cHq1 := cell_keep eq1 cH
        have cCq1 := cell_keep eq1 cC
        have tAq1 := ta.keep eq1 (by omega)
        have tBq1 := tb.keep eq1 (by omega)
        have tCq1 := tc.keep eq1 (by omega)
        have tVq1 := ti'.keep eq1 (by omega)
        clear hwq1 lcI cI cO cH cC ta tb tc ti'
        have hrow2 := row_keep hrow eq1
        clear hrow
        have lw : w.heap.size < wq1.heap.size := World.block_lt_of_cell? _ _ cIq1
        have HU : Hid (failL (fitF xs) 0 (s.cons.take (k + 1)) = failL (fitF xs) 0 (s.cons.take k) ++ [(k : Int)]) := Lib.hid (by rw [HT.out, if_neg (by simp)])
        generalize failL (fitF xs) 0 (s.cons.take k) = F at *
        go_wp2_with (at_builtin; refine wpList_append_own _ rfl _ _ 46 rfl (w.heap.size + 1) 3 i0 (.int .i64 0) 1 8 Try.underlying46 hi0 hz0 hz1 hz2 rfl (by decide) _ _ _ rfl (hrow2.alloc _) ⟨wq1.heap.size, 0, none⟩ 1 1 [.int .i64 ((k : Int))] rfl rfl (cell_one_new' _ _ _) (by simp [Value.oneCell']) (by unfold maxLen; omega) (by omega) (by simp; omega) ?_; intro v' w5 hown' hgrow _)
        have eB : Below (w.heap.size + 1) (wq1.alloc (.cells #[.int .i64 ((k : Int))] 3)) w5 := (Below.refl _ _).grown hgrow (by simp; omega) (fun j ej => (hrow2.lt j ej).1)
        have be5 : Below w.heap.size w w5 := (bq1.alloc (by omega) (.cells #[.int .i64 ((k : Int))] 3)).trans (eB.mono (by omega))
        have z5 := hgrow.size
        simp only [World.size_alloc] at z5
        have kI := (eB.cell (p := ⟨w.heap.size, 0, none⟩) (Nat.lt_succ_self _)).trans (alloc_keep cIq1)
        have kO := (eB.cell (p := ⟨w.heap.size, 1, none⟩) (Nat.lt_succ_self _)).trans (alloc_keep cOq1)
        have kH := (eB.cell (p := ⟨w.heap.size, 2, none⟩) (Nat.lt_succ_self _)).trans (alloc_keep cHq1)
        have kC := (eB.cell (p := ⟨w.heap.size, 3, none⟩) (Nat.lt_succ_self _)).trans (alloc_keep cCq1)
        clear cIq1 cOq1 cHq1 cCq1 hrow2
        go_roundw
        case rel => exact ⟨k + 1, by omega, by go_num, be5, by omega, kI, kO, kH, kC, by rw [HU.out]; simpa using hown'⟩
        case measure => simp [intOf]; omega
      · obtain rfl : k = s.cons.length := by omega
        rw [List.take_length] at hrow
        have ht := (Nums.own (ts := failL (fitF xs) 0 s.cons) hrow (fun x hx => by have := failL_bd _ _ _ x hx; unfold Fits; omega)).mono (l' := w.heap.size) (h' := wr.heap.size) (by omega) (Nat.le_refl _)
        obtain ⟨g, cg, rfl, lg, bg⟩ := ht.shape
        clear hrow
        go_wp2_with fail
        go_ret
        exact ⟨_, rfl, be, by rw [HR.out]; exact ht⟩
  · have H4 := Lib.hid h4
    clear h4
    have HR : Hid (failing s xs = failL (fitF xs) 0 s.cons) := Lib.hid (if_pos ⟨h1, h2⟩)
    have HI := Lib.hid (cons_in h1 h2)
    have H1 := Lib.hid h1
    have e2 : ((xs.length : Int) != 1 + s.ins + (s.hints.length : Int)) = false := by unfold varsN at h2; simpa using h2
    clear h1 h2
    go_enter Try.func47, Try.ntmps47
    go_wp2_with fail
    refine name_call fun w1 hw1 => ?_
    have b1 : Below w.heap.size w w1 := by rw [hw1]; (repeat (first | with_reducible exact Below.refl _ _ | with_reducible assumption | with_reducible refine Below.drew ?_ | with_reducible refine bdrewN ?_ _ | ((with_reducible refine balloc ?_ ?_ _); (focus (first | with_reducible exact Nat.le_refl _ | (simp; done) | omega | (simp; omega) | exact Nat.le_refl _))) | ((with_reducible refine bset ?_ ?_ _); (focus (first | with_reducible exact Nat.le_refl _ | (simp; done) | omega | (simp; omega) | exact Nat.le_refl _)))))
    have z1 : w.heap.size + 1 ≤ w1.heap.size := by rw [hw1]; simp
    have e1 : Below w.heap.size w w1 := by rw [hw1]; (repeat (first | with_reducible exact Below.refl _ _ | with_reducible assumption | with_reducible refine Below.drew ?_ | with_reducible refine bdrewN ?_ _ | ((with_reducible refine balloc ?_ ?_ _); (focus (first | with_reducible exact Nat.le_refl _ | (simp; done) | omega | (simp; omega) | exact Nat.le_refl _))) | ((with_reducible refine bset ?_ ?_ _); (focus (first | with_reducible exact Nat.le_refl _ | (simp; done) | omega | (simp; omega) | exact Nat.le_refl _)))))
    have cI1 : w1.cell? ⟨w.heap.size, 0, none⟩ = some (.int .i64 s.ins) := by rw [hw1]; first | (simp; done) | go_simp
    have cO1 : w1.cell? ⟨w.heap.size, 1, none⟩ = some (.slice ao s.outs.length ko) := by rw [hw1]; first | (simp; done) | go_simp
    have cH1 : w1.cell? ⟨w.heap.size, 2, none⟩ = some (.slice ah s.hints.length kh) := by rw [hw1]; first | (simp; done) | go_simp
    have cC1 : w1.cell? ⟨w.heap.size, 3, none⟩ = some (.slice ac s.cons.length kc) := by rw [hw1]; first | (simp; done) | go_simp
    have tS1 := t.keep e1 (by omega)
    have tV1 := ti.keep e1 (by omega)
    clear hw1
    refine (sysOk_implb o l h _ _ _ _ s _ tS1 (by omega) nh no nc _ H1.out).mono ?_; rintro e w2 ⟨rfl, f2⟩
    have b2 := b1.trans (f2.mono (by omega))
    have z2 := f2.size
    have cI2 := cell_keep f2 cI1
    have cO2 := cell_keep f2 cO1
    have cH2 := cell_keep f2 cH1
    have cC2 := cell_keep f2 cC1
    have tS2 := tS1.keep f2 (by omega)
    have tV2 := tV1.keep f2 (by omega)
    clear cI1 cO1 cH1 cC1 tS1 tV1
    have lcI2 : w.heap.size < w2.heap.size := World.block_lt_of_cell? _ _ cI2
    go_wp2_with fail
    refine name_call fun w3 hw3 => ?_
    have b3 : Below w.heap.size w w3 := by rw [hw3]; (repeat (first | with_reducible exact Below.refl _ _ | with_reducible assumption | with_reducible refine Below.drew ?_ | with_reducible refine bdrewN ?_ _ | ((with_reducible refine balloc ?_ ?_ _); (focus (first | with_reducible exact Nat.le_refl _ | (simp; done) | omega | (simp; omega) | exact Nat.le_refl _))) | ((with_reducible refine bset ?_ ?_ _); (focus (first | with_reducible exact Nat.le_refl _ | (simp; done) | omega | (simp; omega) | exact Nat.le_refl _)))))
    have z3 : w2.heap.size + 0 ≤ w3.heap.size := by rw [hw3]; simp
    have e3 : Below w2.heap.size w2 w3 := by rw [hw3]; (repeat (first | with_reducible exact Below.refl _ _ | with_reducible assumption | with_reducible refine Below.drew ?_ | with_reducible refine bdrewN ?_ _ | ((with_reducible refine balloc ?_ ?_ _); (focus (first | with_reducible exact Nat.le_refl _ | (simp; done) | omega | (simp; omega) | exact Nat.le_refl _))) | ((with_reducible refine bset ?_ ?_ _); (focus (first | with_reducible exact Nat.le_refl _ | (simp; done) | omega | (simp; omega) | exact Nat.le_refl _)))))
    have cI3 := cell_keep e3 cI2
    have cO3 := cell_keep e3 cO2
    have cH3 := cell_keep e3 cH2
    have cC3 := cell_keep e3 cC2
    have tS3 := tS2.keep e3 (by omega)
    have tV3 := tV2.keep e3 (by omega)
    clear hw3 lcI2 cI2 cO2 cH2 cC2 tS2 tV2
    refine (vars_any s _ _ _ _ _ _ _ i1 i2 nh).mono ?_; rintro e w4 ⟨rfl, f4⟩
    have b4 := b3.trans (f4.mono (by omega))
    have z4 := f4.size
    have cI4 := cell_keep f4 cI3
    have cO4 := cell_keep f4 cO3
    have cH4 := cell_keep f4 cH3
    have cC4 := cell_keep f4 cC3
    have tS4 := tS3.keep f4 (by omega)
    have tV4 := tV3.keep f4 (by omega)
    clear cI3 cO3 cH3 cC3 tS3 tV3
    have lcI4 : w.heap.size < w4.heap.size := World.block_lt_of_cell? _ _ cI4
    go_wp2_with fail
    refine name_call fun w5 hw5 => ?_
    have b5 : Below w.heap.size w w5 := by rw [hw5]; (repeat (first | with_reducible exact Below.refl _ _ | with_reducible assumption | with_reducible refine Below.drew ?_ | with_reducible refine bdrewN ?_ _ | ((with_reducible refine balloc ?_ ?_ _); (focus (first | with_reducible exact Nat.le_refl _ | (simp; done) | omega | (simp; omega) | exact Nat.le_refl _))) | ((with_reducible refine bset ?_ ?_ _); (focus (first | with_reducible exact Nat.le_refl _ | (simp; done) | omega | (simp; omega) | exact Nat.le_refl _)))))
    have z5 : w4.heap.size + 0 ≤ w5.heap.size := by rw [hw5]; simp
    have e5 : Below w4.heap.size w4 w5 := by rw [hw5]; (repeat (first | with_reducible exact Below.refl _ _ | with_reducible assumption | with_reducible refine Below.drew ?_ | with_reducible refine bdrewN ?_ _ | ((with_reducible refine balloc ?_ ?_ _); (focus (first | with_reducible exact Nat.le_refl _ | (simp; done) | omega | (simp; omega) | exact Nat.le_refl _))) | ((with_reducible refine bset ?_ ?_ _); (focus (first | with_reducible exact Nat.le_refl _ | (simp; done) | omega | (simp; omega) | exact Nat.le_refl _)))))
    have cI5 := cell_keep e5 cI4
    have cO5 := cell_keep e5 cO4
    have cH5 := cell_keep e5 cH4
    have cC5 := cell_keep e5 cC4
    have tS5 := tS4.keep e5 (by omega)
    have tV5 := tV4.keep e5 (by omega)
    clear hw5 lcI4 cI4 cO4 cH4 cC4 tS4 tV4
    refine (asg_impl lim _ xs _ tV5).mono ?_; rw [H4.out]; rintro e w' ⟨rfl, rfl⟩
    go_wp2_with fail
    clear e2
    go_loopw [6, 24] (fun v i wr => ∃ k : Nat, k ≤ s.cons.length ∧ i = .int .i64 k ∧ Below w.heap.size w wr ∧ w.heap.size + 1 ≤ wr.heap.size ∧ wr.cell? ⟨w.heap.size, 0, none⟩ = some (.int .i64 s.ins) ∧ wr.cell? ⟨w.heap.size, 1, none⟩ = some (.slice ao s.outs.length ko) ∧ wr.cell? ⟨w.heap.size, 2, none⟩ = some (.slice ah s.hints.length kh) ∧ wr.cell? ⟨w.heap.size, 3, none⟩ = some (.slice ac s.cons.length kc) ∧ wr.ownsRow (w.heap.size + 1) 3 1 v (failL (fitF xs) 0 (s.cons.take k)).length ((failL (fitF xs) 0 (s.cons.take k)).map (Value.int .i64))) (fun _ i _ => s.cons.length - (intOf i).toNat)
    case atStart => exact ⟨0, Nat.zero_le _, rfl, b5, by omega, cI5, cO5, cH5, cC5, World.ownsRow_nil _ _ _ _⟩
    case round =>
      clear cI5 cO5 cH5 cC5
      obtain ⟨k, hk, rfl, be, zz, cI, cO, cH, cC, hrow⟩ := hrel
      by_cases hlt : k < s.cons.length
      · obtain ⟨b, off, va, vb, vc, rfl, l1, m1, c0, c1, c2, ta, tb, tc⟩ := (tC.keep be hw).at hlt
        obtain ⟨x, kx, rfl, lx, bx⟩ := ta.shape
        obtain ⟨y, ky, rfl, ly, by'⟩ := tb.shape
        obtain ⟨z, kz, rfl, lz, bz'⟩ := tc.shape
        have ti' := ti.keep be hl
        have HW := Lib.hid (HI.out _ (List.getElem_mem hlt))
        have bl : b < wr.heap.size := World.block_lt_of_cell? _ _ c0
        have lenF : (failL (fitF xs) 0 (s.cons.take k)).length ≤ k := Nat.le_trans (failL_len _ _ _) (by simp; omega)
        cases hh : holdsB xs s.cons[k]
        · have HT := Lib.hid (failL_step (f := fitF xs) hlt false (by simp [fitF, H4.out, hh]))
          have HH : Hid (conHold xs s.cons[k] = false) := Lib.hid (by simp [conHold, H4.out, HW.out, hh])
          have HG := Lib.hid hh
          clear hh
          have lcI : w.heap.size < wr.heap.size := World.block_lt_of_cell? _ _ cI
          go_wp2_with fail
          refine name_call fun wp1 hwp1 => ?_
          have bp1 : Below w.heap.size w wp1 := by rw [hwp1]; (repeat (first | with_reducible exact Below.refl _ _ | with_reducible assumption | with_reducible refine Below.drew ?_ | with_reducible refine bdrewN ?_ _ | ((with_reducible refine balloc ?_ ?_ _); (focus (first | with_reducible exact Nat.le_refl _ | (simp; done) | omega | (simp; omega) | exact Nat.le_refl _))) | ((with_reducible refine bset ?_ ?_ _); (focus (first | with_reducible exact Nat.le_refl _ | (simp; done) | omega | (simp; omega) | exact Nat.le_refl _)))))
          have zp1 : wr.heap.size + 1 ≤ wp1.heap.size := by rw [hwp1]; simp
          have ep1 : Below wr.heap.size wr wp1 := by rw [hwp1]; (repeat (first | with_reducible exact Below.refl _ _ | with_reducible assumption | with_reducible refine Below.drew ?_ | with_reducible refine bdrewN ?_ _ | ((with_reducible refine balloc ?_ ?_ _); (focus (first | with_reducible exact Nat.le_refl _ | (simp; done) | omega | (simp; omega) | exact Nat.le_refl _))) | ((with_reducible refine bset ?_ ?_ _); (focus (first | with_reducible exact Nat.le_refl _ | (simp; done) | omega | (simp; omega) | exact Nat.le_refl _)))))
          have cIp1 := cell_keep ep1 cI
          have cOp1 := cell_keep ep1 cO
          have cHp1 := cell_keep ep1 cH
          have cCp1 := cell_keep ep1 cC
          have tAp1 := ta.keep ep1 (by omega)
          have tBp1 := tb.keep ep1 (by omega)
          have tCp1 := tc.keep ep1 (by omega)
          have tVp1 := ti'.keep ep1 (by omega)
          clear hwp1 lcI cI cO cH cC ta tb tc ti'
          have hrow1 := row_keep hrow ep1
          clear hrow
          refine (holdsFor_any o l h _ _ _ s.cons[k] lim _ xs _ tAp1 tBp1 tCp1 (by omega) tVp1 (by omega) H4.out HW.out).mono ?_; rw [HG.out]; rintro e wp2 ⟨rfl, fp2⟩
          have bp2 := bp1.trans (fp2.mono (by omega))
          have zp2 := fp2.size
          have cIp2 := cell_keep fp2 cIp1
          have cOp2 := cell_keep fp2 cOp1
          have cHp2 := cell_keep fp2 cHp1
          have cCp2 := cell_keep fp2 cCp1
          have tAp2 := tAp1.keep fp2 (by omega)
          have tBp2 := tBp1.keep fp2 (by omega)
          have tCp2 := tCp1.keep fp2 (by omega)
          have tVp2 := tVp1.keep fp2 (by omega)
          clear cIp1 cOp1 cHp1 cCp1 tAp1 tBp1 tCp1 tVp1
          have hrow2 := row_keep hrow1 fp2
          clear hrow1
          have lw : w.heap.size < wp2.heap.size := World.block_lt_of_cell? _ _ cIp2
          have HU : Hid (failL (fitF xs) 0 (s.cons.take (k + 1)) = failL (fitF xs) 0 (s.cons.take k) ++ [(k : Int)]) := Lib.hid (by rw [HT.out, if_neg (by simp)])
          generalize failL (fitF xs) 0 (s.cons.take k) = F at *
          go_wp2_with (at_builtin; refine wpList_append_own _ rfl _ _ 46 rfl (w.heap.size + 1) 3 i0 (.int .i64 0) 1 8 Try.underlying46 hi0 hz0 hz1 hz2 rfl (by decide) _ _ _ rfl (hrow2.alloc _) ⟨wp2.heap.size, 0, none⟩ 1 1 [.int .i64 ((k : Int))] rfl rfl (cell_one_new' _ _ _) (by simp [Value.oneCell']) (by unfold maxLen; omega) (by omega) (by simp; omega) ?_; intro v' w5 hown' hgrow _)
          have eB : Below (w.heap.size + 1) (wp2.alloc (.cells #[.int .i64 ((k : Int))] 3)) w5 := (Below.refl _ _).grown hgrow (by simp; omega) (fun j ej => (hrow2.lt j ej).1)
          have be5 : Below w.heap.size w w5 := (bp2.alloc (by omega) (.cells #[.int .i64 ((k : Int))] 3)).trans (eB.mono (by omega))
          have z5 := hgrow.size
          simp only [World.size_alloc] at z5
          have kI := (eB.cell (p := ⟨w.heap.size, 0, none⟩) (Nat.lt_succ_self _)).trans (alloc_keep cIp2)
          have kO := (eB.cell (p := ⟨w.heap.size, 1, none⟩) (Nat.lt_succ_self _)).trans (alloc_keep cOp2)
          have kH := (eB.cell (p := ⟨w.heap.size, 2, none⟩) (Nat.lt_succ_self _)).trans (alloc_keep cHp2)
          have kC := (eB.cell (p := ⟨w.heap.size, 3, none⟩) (Nat.lt_succ_self _)).trans (alloc_keep cCp2)
          clear cIp2 cOp2 cHp2 cCp2 hrow2
          go_roundw
          case rel => exact ⟨k + 1, by omega, by go_num, be5, by omega, kI, kO, kH, kC, by rw [HU.out]; simpa using hown'⟩
          case measure => simp [intOf]; omega
        have HT : Hid (failL (fitF xs) 0 (s.cons.take (k + 1)) = failL (fitF xs) 0 (s.cons.take k)) := Lib.hid (by rw [failL_step (f := fitF xs) hlt true (by simp [fitF, H4.out, hh])]; simp)
        have HH : Hid (conHold xs s.cons[k] = true) := Lib.hid (by simp [conHold, H4.out, HW.out, hh])
        have HG := Lib.hid hh
        clear hh
        have lcI : w.heap.size < wr.heap.size := World.block_lt_of_cell? _ _ cI
        go_wp2_with fail
        refine name_call fun wq1 hwq1 => ?_
        have bq1 : Below w.heap.size w wq1 := by rw [hwq1]; (repeat (first | with_reducible exact Below.refl _ _ | with_reducible assumption | with_reducible refine Below.drew ?_ | with_reducible refine bdrewN ?_ _ | ((with_reducible refine balloc ?_ ?_ _); (focus (first | with_reducible exact Nat.le_refl _ | (simp; done) | omega | (simp; omega) | exact Nat.le_refl _))) | ((with_reducible refine bset ?_ ?_ _); (focus (first | with_reducible exact Nat.le_refl _ | (simp; done) | omega | (simp; omega) | exact Nat.le_refl _)))))
        have zq1 : wr.heap.size + 1 ≤ wq1.heap.size := by rw [hwq1]; simp
        have eq1 : Below wr.heap.size wr wq1 := by rw [hwq1]; (repeat (first | with_reducible exact Below.refl _ _ | with_reducible assumption | with_reducible refine Below.drew ?_ | with_reducible refine bdrewN ?_ _ | ((with_reducible refine balloc ?_ ?_ _); (focus (first | with_reducible exact Nat.le_refl _ | (simp; done) | omega | (simp; omega) | exact Nat.le_refl _))) | ((with_reducible refine bset ?_ ?_ _); (focus (first | with_reducible exact Nat.le_refl _ | (simp; done) | omega | (simp; omega) | exact Nat.le_refl _)))))
        have cIq1 := cell_keep eq1 cI
        have cOq1 := cell_keep eq1 cO
        have cHq1 := cell_keep eq1 cH
        have cCq1 := cell_keep eq1 cC
        have tAq1 := ta.keep eq1 (by omega)
        have tBq1 := tb.keep eq1 (by omega)
        have tCq1 := tc.keep eq1 (by omega)
        have tVq1 := ti'.keep eq1 (by omega)
        clear hwq1 lcI cI cO cH cC ta tb tc ti'
        have hrow1 := row_keep hrow eq1
        clear hrow
        refine (holdsFor_any o l h _ _ _ s.cons[k] lim _ xs _ tAq1 tBq1 tCq1 (by omega) tVq1 (by omega) H4.out HW.out).mono ?_; rw [HG.out]; rintro e wq2 ⟨rfl, fq2⟩
        have bq2 := bq1.trans (fq2.mono (by omega))
        have zq2 := fq2.size
        have cIq2 := cell_keep fq2 cIq1
        have cOq2 := cell_keep fq2 cOq1
        have cHq2 := cell_keep fq2 cHq1
        have cCq2 := cell_keep fq2 cCq1
        have tAq2 := tAq1.keep fq2 (by omega)
        have tBq2 := tBq1.keep fq2 (by omega)
        have tCq2 := tCq1.keep fq2 (by omega)
        have tVq2 := tVq1.keep fq2 (by omega)
        clear cIq1 cOq1 cHq1 cCq1 tAq1 tBq1 tCq1 tVq1
        have hrow2 := row_keep hrow1 fq2
        clear hrow1
        go_wp2_with fail
        go_roundw
        case rel => exact ⟨k + 1, by omega, by go_num, bq2, by omega, cIq2, cOq2, cHq2, cCq2, by rw [HT.out]; exact hrow2⟩
        case measure => simp [intOf]; omega
      · obtain rfl : k = s.cons.length := by omega
        rw [List.take_length] at hrow
        have ht := (Nums.own (ts := failL (fitF xs) 0 s.cons) hrow (fun x hx => by have := failL_bd _ _ _ x hx; unfold Fits; omega)).mono (l' := w.heap.size) (h' := wr.heap.size) (by omega) (Nat.le_refl _)
        obtain ⟨g, cg, rfl, lg, bg⟩ := ht.shape
        clear hrow
        go_wp2_with fail
        go_ret
        exact ⟨_, rfl, be, by rw [HR.out]; exact ht⟩

set_option maxRecDepth 100000 in
set_option maxHeartbeats 6400000 in
theorem failing_spec (o l h vi vo vh vc) (s : SysC) (lim : Nat) (v : Value) (xs : List Int) (w : World) (t : SysR o l h w vi vo vh vc s) (hw : h ≤ w.heap.size) (ti : Ints lim w v xs) (hl : lim ≤ w.heap.size) (ni : xs.length ≤ 1048576) (nh : s.hints.length ≤ 1048576) (no : s.outs.length ≤ 1048576) (nc : s.cons.length ≤ 1048576) :
    Calls Try.prog 46 #[.agg #[vi, vo, vh, vc], v] w fun e w' => ∃ u, e = .returned u ∧ Below w.heap.size w w' ∧ Nums true w.heap.size w'.heap.size w' u (failing s xs) := by
  obtain ⟨tO, tH, tC⟩ := t.parts
  obtain ⟨ao, ko, ah, kh, ac, kc, rfl, rfl, rfl, rfl, lo, bo, lh, bh, lc, bc, fi⟩ := t.shape
  obtain ⟨ai, ki, rfl, lai, bai⟩ := ti.shape
  obtain ⟨i0, hi0, hz0, hz1, hz2⟩ := info_parts intInfo
  cases h1 : sysOk s
  · have HR : Hid (failing s xs = []) := Lib.hid (if_neg (by rw [h1]; simp))
    have H1 := Lib.hid h1
    clear h1
    go_enter Try.func46, Try.ntmps46
    go_wp2_with fail
    refine name_call fun w1 hw1 => ?_
    have b1 : Below w.heap.size w w1 := by rw [hw1]; (repeat (first | with_reducible exact Below.refl _ _ | with_reducible assumption | with_reducible refine Below.drew ?_ | with_reducible refine bdrewN ?_ _ | ((with_reducible refine balloc ?_ ?_ _); (focus (first | with_reducible exact Nat.le_refl _ | (simp; done) | omega | (simp; omega) | exact Nat.le_refl _))) | ((with_reducible refine bset ?_ ?_ _); (focus (first | with_reducible exact Nat.le_refl _ | (simp; done) | omega | (simp; omega) | exact Nat.le_refl _)))))
    have z1 : w.heap.size + 1 ≤ w1.heap.size := by rw [hw1]; simp
    have e1 : Below w.heap.size w w1 := by rw [hw1]; (repeat (first | with_reducible exact Below.refl _ _ | with_reducible assumption | with_reducible refine Below.drew ?_ | with_reducible refine bdrewN ?_ _ | ((with_reducible refine balloc ?_ ?_ _); (focus (first | with_reducible exact Nat.le_refl _ | (simp; done) | omega | (simp; omega) | exact Nat.le_refl _))) | ((with_reducible refine bset ?_ ?_ _); (focus (first | with_reducible exact Nat.le_refl _ | (simp; done) | omega | (simp; omega) | exact Nat.le_refl _)))))
    have cI1 : w1.cell? ⟨w.heap.size, 0, none⟩ = some (.int .i64 s.ins) := by rw [hw1]; first | (simp; done) | go_simp
    have cO1 : w1.cell? ⟨w.heap.size, 1, none⟩ = some (.slice ao s.outs.length ko) := by rw [hw1]; first | (simp; done) | go_simp
    have cH1 : w1.cell? ⟨w.heap.size, 2, none⟩ = some (.slice ah s.hints.length kh) := by rw [hw1]; first | (simp; done) | go_simp
    have cC1 : w1.cell? ⟨w.heap.size, 3, none⟩ = some (.slice ac s.cons.length kc) := by rw [hw1]; first | (simp; done) | go_simp
    have tS1 := t.keep e1 (by omega)
    have tV1 := ti.keep e1 (by omega)
    clear hw1
    refine (sysOk_specb o l h _ _ _ _ s _ tS1 (by omega) nh no nc _ H1.out).mono ?_; rintro e w2 ⟨rfl, f2⟩
    have b2 := b1.trans (f2.mono (by omega))
    have z2 := f2.size
    have cI2 := cell_keep f2 cI1
    have cO2 := cell_keep f2 cO1
    have cH2 := cell_keep f2 cH1
    have cC2 := cell_keep f2 cC1
    have tS2 := tS1.keep f2 (by omega)
    have tV2 := tV1.keep f2 (by omega)
    clear cI1 cO1 cH1 cC1 tS1 tV1
    go_wp2_with fail
    go_ret
    exact ⟨_, rfl, b2, by rw [HR.out]; exact Nums.nil _ _ _ _⟩
  obtain ⟨i1, i2, i3, i4, i5⟩ := limB_facts (sysOk_limB h1)
  by_cases h2 : (xs.length : Int) = varsN s
  case' neg =>
    have HR : Hid (failing s xs = []) := Lib.hid (if_neg (by rw [h1]; simp [h2]))
    have H1 := Lib.hid h1
    have e2 : ((xs.length : Int) != 1 + s.ins + (s.hints.length : Int)) = true := by unfold varsN at h2; simpa using h2
    clear h1 h2
    go_enter Try.func46, Try.ntmps46
    go_wp2_with fail
    refine name_call fun w1 hw1 => ?_
    have b1 : Below w.heap.size w w1 := by rw [hw1]; (repeat (first | with_reducible exact Below.refl _ _ | with_reducible assumption | with_reducible refine Below.drew ?_ | with_reducible refine bdrewN ?_ _ | ((with_reducible refine balloc ?_ ?_ _); (focus (first | with_reducible exact Nat.le_refl _ | (simp; done) | omega | (simp; omega) | exact Nat.le_refl _))) | ((with_reducible refine bset ?_ ?_ _); (focus (first | with_reducible exact Nat.le_refl _ | (simp; done) | omega | (simp; omega) | exact Nat.le_refl _)))))
    have z1 : w.heap.size + 1 ≤ w1.heap.size := by rw [hw1]; simp
    have e1 : Below w.heap.size w w1 := by rw [hw1]; (repeat (first | with_reducible exact Below.refl _ _ | with_reducible assumption | with_reducible refine Below.drew ?_ | with_reducible refine bdrewN ?_ _ | ((with_reducible refine balloc ?_ ?_ _); (focus (first | with_reducible exact Nat.le_refl _ | (simp; done) | omega | (simp; omega) | exact Nat.le_refl _))) | ((with_reducible refine bset ?_ ?_ _); (focus (first | with_reducible exact Nat.le_refl _ | (simp; done) | omega | (simp; omega) | exact Nat.le_refl _)))))
    have cI1 : w1.cell? ⟨w.heap.size, 0, none⟩ = some (.int .i64 s.ins) := by rw [hw1]; first | (simp; done) | go_simp
    have cO1 : w1.cell? ⟨w.heap.size, 1, none⟩ = some (.slice ao s.outs.length ko) := by rw [hw1]; first | (simp; done) | go_simp
    have cH1 : w1.cell? ⟨w.heap.size, 2, none⟩ = some (.slice ah s.hints.length kh) := by rw [hw1]; first | (simp; done) | go_simp
    have cC1 : w1.cell? ⟨w.heap.size, 3, none⟩ = some (.slice ac s.cons.length kc) := by rw [hw1]; first | (simp; done) | go_simp
    have tS1 := t.keep e1 (by omega)
    have tV1 := ti.keep e1 (by omega)
    clear hw1
    refine (sysOk_specb o l h _ _ _ _ s _ tS1 (by omega) nh no nc _ H1.out).mono ?_; rintro e w2 ⟨rfl, f2⟩
    have b2 := b1.trans (f2.mono (by omega))
    have z2 := f2.size
    have cI2 := cell_keep f2 cI1
    have cO2 := cell_keep f2 cO1
    have cH2 := cell_keep f2 cH1
    have cC2 := cell_keep f2 cC1
    have tS2 := tS1.keep f2 (by omega)
    have tV2 := tV1.keep f2 (by omega)
    clear cI1 cO1 cH1 cC1 tS1 tV1
    go_wp2_with fail
    go_ret
    exact ⟨_, rfl, b2, by rw [HR.out]; exact Nums.nil _ _ _ _⟩
  cases h4 : isAsg xs
  · have H4 := Lib.hid h4
    clear h4
    have HR : Hid (failing s xs = failL (fitF xs) 0 s.cons) := Lib.hid (if_pos ⟨h1, h2⟩)
    have HI := Lib.hid (cons_in h1 h2)
    have H1 := Lib.hid h1
    have e2 : ((xs.length : Int) != 1 + s.ins + (s.hints.length : Int)) = false := by unfold varsN at h2; simpa using h2
    clear h1 h2
    go_enter Try.func46, Try.ntmps46
    go_wp2_with fail
    refine name_call fun w1 hw1 => ?_
    have b1 : Below w.heap.size w w1 := by rw [hw1]; (repeat (first | with_reducible exact Below.refl _ _ | with_reducible assumption | with_reducible refine Below.drew ?_ | with_reducible refine bdrewN ?_ _ | ((with_reducible refine balloc ?_ ?_ _); (focus (first | with_reducible exact Nat.le_refl _ | (simp; done) | omega | (simp; omega) | exact Nat.le_refl _))) | ((with_reducible refine bset ?_ ?_ _); (focus (first | with_reducible exact Nat.le_refl _ | (simp; done) | omega | (simp; omega) | exact Nat.le_refl _)))))
    have z1 : w.heap.size + 1 ≤ w1.heap.size := by rw [hw1]; simp
    have e1 : Below w.heap.size w w1 := by rw [hw1]; (repeat (first | with_reducible exact Below.refl _ _ | with_reducible assumption | with_reducible refine Below.drew ?_ | with_reducible refine bdrewN ?_ _ | ((with_reducible refine balloc ?_ ?_ _); (focus (first | with_reducible exact Nat.le_refl _ | (simp; done) | omega | (simp; omega) | exact Nat.le_refl _))) | ((with_reducible refine bset ?_ ?_ _); (focus (first | with_reducible exact Nat.le_refl _ | (simp; done) | omega | (simp; omega) | exact Nat.le_refl _)))))
    have cI1 : w1.cell? ⟨w.heap.size, 0, none⟩ = some (.int .i64 s.ins) := by rw [hw1]; first | (simp; done) | go_simp
    have cO1 : w1.cell? ⟨w.heap.size, 1, none⟩ = some (.slice ao s.outs.length ko) := by rw [hw1]; first | (simp; done) | go_simp
    have cH1 : w1.cell? ⟨w.heap.size, 2, none⟩ = some (.slice ah s.hints.length kh) := by rw [hw1]; first | (simp; done) | go_simp
    have cC1 : w1.cell? ⟨w.heap.size, 3, none⟩ = some (.slice ac s.cons.length kc) := by rw [hw1]; first | (simp; done) | go_simp
    have tS1 := t.keep e1 (by omega)
    have tV1 := ti.keep e1 (by omega)
    clear hw1
    refine (sysOk_specb o l h _ _ _ _ s _ tS1 (by omega) nh no nc _ H1.out).mono ?_; rintro e w2 ⟨rfl, f2⟩
    have b2 := b1.trans (f2.mono (by omega))
    have z2 := f2.size
    have cI2 := cell_keep f2 cI1
    have cO2 := cell_keep f2 cO1
    have cH2 := cell_keep f2 cH1
    have cC2 := cell_keep f2 cC1
    have tS2 := tS1.keep f2 (by omega)
    have tV2 := tV1.keep f2 (by omega)
    clear cI1 cO1 cH1 cC1 tS1 tV1
    go_wp2_with fail
    clear e2
    go_loopw [5, 6] (fun v i wr => ∃ k : Nat, k ≤ s.cons.length ∧ i = .int .i64 k ∧ Below w.heap.size w wr ∧ w.heap.size + 1 ≤ wr.heap.size ∧ wr.cell? ⟨w.heap.size, 0, none⟩ = some (.int .i64 s.ins) ∧ wr.cell? ⟨w.heap.size, 1, none⟩ = some (.slice ao s.outs.length ko) ∧ wr.cell? ⟨w.heap.size, 2, none⟩ = some (.slice ah s.hints.length kh) ∧ wr.cell? ⟨w.heap.size, 3, none⟩ = some (.slice ac s.cons.length kc) ∧ wr.ownsRow (w.heap.size + 1) 3 1 v (failL (fitF xs) 0 (s.cons.take k)).length ((failL (fitF xs) 0 (s.cons.take k)).map (Value.int .i64))) (fun _ i _ => s.cons.length - (intOf i).toNat)
    case atStart => exact ⟨0, Nat.zero_le _, rfl, b2, by omega, cI2, cO2, cH2, cC2, World.ownsRow_nil _ _ _ _⟩
    case round =>
      clear cI2 cO2 cH2 cC2
      obtain ⟨k, hk, rfl, be, zz, cI, cO, cH, cC, hrow⟩ := hrel
      by_cases hlt : k < s.cons.length
      · obtain ⟨b, off, va, vb, vc, rfl, l1, m1, c0, c1, c2, ta, tb, tc⟩ := (tC.keep be hw).at hlt
        obtain ⟨x, kx, rfl, lx, bx⟩ := ta.shape
        obtain ⟨y, ky, rfl, ly, by'⟩ := tb.shape
        obtain ⟨z, kz, rfl, lz, bz'⟩ := tc.shape
        have ti' := ti.keep be hl
        have HW := Lib.hid (HI.out _ (List.getElem_mem hlt))
        have bl : b < wr.heap.size := World.block_lt_of_cell? _ _ c0
        have lenF : (failL (fitF xs) 0 (s.cons.take k)).length ≤ k := Nat.le_trans (failL_len _ _ _) (by simp; omega)
        have HT := Lib.hid (failL_step (f := fitF xs) hlt false (by simp [fitF, H4.out]))
        have HH : Hid (conHold xs s.cons[k] = false) := Lib.hid (by simp [conHold, H4.out])
        have lcI : w.heap.size < wr.heap.size := World.block_lt_of_cell? _ _ cI
        go_wp2_with fail
        refine name_call fun wq1 hwq1 => ?_
        have bq1 : Below w.heap.size w wq1 := by rw [hwq1]; (repeat (first | with_reducible exact Below.refl _ _ | with_reducible assumption | with_reducible refine Below.drew ?_ | with_reducible refine bdrewN ?_ _ | ((with_reducible refine balloc ?_ ?_ _); (focus (first | with_reducible exact Nat.le_refl _ | (simp; done) | omega | (simp; omega) | exact Nat.le_refl _))) | ((with_reducible refine bset ?_ ?_ _); (focus (first | with_reducible exact Nat.le_refl _ | (simp; done) | omega | (simp; omega) | exact Nat.le_refl _)))))
        have zq1 : wr.heap.size + 0 ≤ wq1.heap.size := by rw [hwq1]; simp
        have eq1 : Below wr.heap.size wr wq1 := by rw [hwq1]; (repeat (first | with_reducible exact Below.refl _ _ | with_reducible assumption | with_reducible refine Below.drew ?_ | with_reducible refine bdrewN ?_ _ | ((with_reducible refine balloc ?_ ?_ _); (focus (first | with_reducible exact Nat.le_refl _ | (simp; done) | omega | (simp; omega) | exact Nat.le_refl _))) | ((with_reducible refine bset ?_ ?_ _); (focus (first | with_reducible exact Nat.le_refl _ | (simp; done) | omega | (simp; omega) | exact Nat.le_refl _)))))
        have cIq1 := cell_keep eq1 cI
        have cOq1 := cell_keep eq1 cO
        have cHq1 := cell_keep eq1 cH
        have cCq1 := cell_keep eq1 cC
        have tAq1 := ta.keep eq1 (by omega)
        have tBq1 := tb.keep eq1 (by omega)
        have tCq1 := tc.keep eq1 (by omega)
        have tVq1 := ti'.keep eq1 (by omega)
        clear hwq1 lcI cI cO cH cC ta tb tc ti'
        have hrow1 := row_keep hrow eq1
        clear hrow
        refine (hold_spec o l h _ _ _ s.cons[k] lim _ xs _ tAq1 tBq1 tCq1 (by omega) tVq1 (by omega) ni).mono ?_; rw [HH.out]; rintro e wq2 ⟨rfl, fq2⟩
        have bq2 := bq1.trans (fq2.mono (by omega))
        have zq2 := fq2.size
        have cIq2 := cell_keep fq2 cIq1
        have cOq2 := cell_keep fq2 cOq1
        have cHq2 := cell_keep fq2 cHq1
        have cCq2 := cell_keep fq2 cCq1
        have tAq2 := tAq1.keep fq2 (by omega)
        have tBq2 := tBq1.keep fq2 (by omega)
        have tCq2 := tCq1.keep fq2 (by omega)
        have tVq2 := tVq1.keep fq2 (by omega)
        clear cIq1 cOq1 cHq1 cCq1 tAq1 tBq1 tCq1 tVq1
        have hrow2 := row_keep hrow1 fq2
        clear hrow1
        have lw : w.heap.size < wq2.heap.size := World.block_lt_of_cell? _ _ cIq2
        have HU : Hid (failL (fitF xs) 0 (s.cons.take (k + 1)) = failL (fitF xs) 0 (s.cons.take k) ++ [(k : Int)]) := Lib.hid (by rw [HT.out, if_neg (by simp)])
        generalize failL (fitF xs) 0 (s.cons.take k) = F at *
        go_wp2_with (at_builtin; refine wpList_append_own _ rfl _ _ 46 rfl (w.heap.size + 1) 3 i0 (.int .i64 0) 1 8 Try.underlying46 hi0 hz0 hz1 hz2 rfl (by decide) _ _ _ rfl (hrow2.alloc _) ⟨wq2.heap.size, 0, none⟩ 1 1 [.int .i64 ((k : Int))] rfl rfl (cell_one_new' _ _ _) (by simp [Value.oneCell']) (by unfold maxLen; omega) (by omega) (by simp; omega) ?_; intro v' w5 hown' hgrow _)
        have eB : Below (w.heap.size + 1) (wq2.alloc (.cells #[.int .i64 ((k : Int))] 3)) w5 := (Below.refl _ _).grown hgrow (by simp; omega) (fun j ej => (hrow2.lt j ej).1)
        have be5 : Below w.heap.size w w5 := (bq2.alloc (by omega) (.cells #[.int .i64 ((k : Int))] 3)).trans (eB.mono (by omega))
        have z5 := hgrow.size
        simp only [World.size_alloc] at z5
        have kI := (eB.cell (p := ⟨w.heap.size, 0, none⟩) (Nat.lt_succ_self _)).trans (alloc_keep cIq2)
        have kO := (eB.cell (p := ⟨w.heap.size, 1, none⟩) (Nat.lt_succ_self _)).trans (alloc_keep cOq2)
        have kH := (eB.cell (p := ⟨w.heap.size, 2, none⟩) (Nat.lt_succ_self _)).trans (alloc_keep cHq2)
        have kC := (eB.cell (p := ⟨w.heap.size, 3, none⟩) (Nat.lt_succ_self _)).trans (alloc_keep cCq2)
        clear cIq2 cOq2 cHq2 cCq2 hrow2
        go_roundw
        case rel => exact ⟨k + 1, by omega, by go_num, be5, by omega, kI, kO, kH, kC, by rw [HU.out]; simpa using hown'⟩
        case measure => simp [intOf]; omega
      · obtain rfl : k = s.cons.length := by omega
        rw [List.take_length] at hrow
        have ht := (Nums.own (ts := failL (fitF xs) 0 s.cons) hrow (fun x hx => by have := failL_bd _ _ _ x hx; unfold Fits; omega)).mono (l' := w.heap.size) (h' := wr.heap.size) (by omega) (Nat.le_refl _)
        obtain ⟨g, cg, rfl, lg, bg⟩ := ht.shape
        clear hrow
        go_wp2_with fail
        go_ret
        exact ⟨_, rfl, be, by rw [HR.out]; exact ht⟩
  · have H4 := Lib.hid h4
    clear h4
    have HR : Hid (failing s xs = failL (fitF xs) 0 s.cons) := Lib.hid (if_pos ⟨h1, h2⟩)
    have HI := Lib.hid (cons_in h1 h2)
    have H1 := Lib.hid h1
    have e2 : ((xs.length : Int) != 1 + s.ins + (s.hints.length : Int)) = false := by unfold varsN at h2; simpa using h2
    clear h1 h2
    go_enter Try.func46, Try.ntmps46
    go_wp2_with fail
    refine name_call fun w1 hw1 => ?_
    have b1 : Below w.heap.size w w1 := by rw [hw1]; (repeat (first | with_reducible exact Below.refl _ _ | with_reducible assumption | with_reducible refine Below.drew ?_ | with_reducible refine bdrewN ?_ _ | ((with_reducible refine balloc ?_ ?_ _); (focus (first | with_reducible exact Nat.le_refl _ | (simp; done) | omega | (simp; omega) | exact Nat.le_refl _))) | ((with_reducible refine bset ?_ ?_ _); (focus (first | with_reducible exact Nat.le_refl _ | (simp; done) | omega | (simp; omega) | exact Nat.le_refl _)))))
    have z1 : w.heap.size + 1 ≤ w1.heap.size := by rw [hw1]; simp
    have e1 : Below w.heap.size w w1 := by rw [hw1]; (repeat (first | with_reducible exact Below.refl _ _ | with_reducible assumption | with_reducible refine Below.drew ?_ | with_reducible refine bdrewN ?_ _ | ((with_reducible refine balloc ?_ ?_ _); (focus (first | with_reducible exact Nat.le_refl _ | (simp; done) | omega | (simp; omega) | exact Nat.le_refl _))) | ((with_reducible refine bset ?_ ?_ _); (focus (first | with_reducible exact Nat.le_refl _ | (simp; done) | omega | (simp; omega) | exact Nat.le_refl _)))))
    have cI1 : w1.cell? ⟨w.heap.size, 0, none⟩ = some (.int .i64 s.ins) := by rw [hw1]; first | (simp; done) | go_simp
    have cO1 : w1.cell? ⟨w.heap.size, 1, none⟩ = some (.slice ao s.outs.length ko) := by rw [hw1]; first | (simp; done) | go_simp
    have cH1 : w1.cell? ⟨w.heap.size, 2, none⟩ = some (.slice ah s.hints.length kh) := by rw [hw1]; first | (simp; done) | go_simp
    have cC1 : w1.cell? ⟨w.heap.size, 3, none⟩ = some (.slice ac s.cons.length kc) := by rw [hw1]; first | (simp; done) | go_simp
    have tS1 := t.keep e1 (by omega)
    have tV1 := ti.keep e1 (by omega)
    clear hw1
    refine (sysOk_specb o l h _ _ _ _ s _ tS1 (by omega) nh no nc _ H1.out).mono ?_; rintro e w2 ⟨rfl, f2⟩
    have b2 := b1.trans (f2.mono (by omega))
    have z2 := f2.size
    have cI2 := cell_keep f2 cI1
    have cO2 := cell_keep f2 cO1
    have cH2 := cell_keep f2 cH1
    have cC2 := cell_keep f2 cC1
    have tS2 := tS1.keep f2 (by omega)
    have tV2 := tV1.keep f2 (by omega)
    clear cI1 cO1 cH1 cC1 tS1 tV1
    go_wp2_with fail
    clear e2
    go_loopw [5, 6] (fun v i wr => ∃ k : Nat, k ≤ s.cons.length ∧ i = .int .i64 k ∧ Below w.heap.size w wr ∧ w.heap.size + 1 ≤ wr.heap.size ∧ wr.cell? ⟨w.heap.size, 0, none⟩ = some (.int .i64 s.ins) ∧ wr.cell? ⟨w.heap.size, 1, none⟩ = some (.slice ao s.outs.length ko) ∧ wr.cell? ⟨w.heap.size, 2, none⟩ = some (.slice ah s.hints.length kh) ∧ wr.cell? ⟨w.heap.size, 3, none⟩ = some (.slice ac s.cons.length kc) ∧ wr.ownsRow (w.heap.size + 1) 3 1 v (failL (fitF xs) 0 (s.cons.take k)).length ((failL (fitF xs) 0 (s.cons.take k)).map (Value.int .i64))) (fun _ i _ => s.cons.length - (intOf i).toNat)
    case atStart => exact ⟨0, Nat.zero_le _, rfl, b2, by omega, cI2, cO2, cH2, cC2, World.ownsRow_nil _ _ _ _⟩
    case round =>
      clear cI2 cO2 cH2 cC2
      obtain ⟨k, hk, rfl, be, zz, cI, cO, cH, cC, hrow⟩ := hrel
      by_cases hlt : k < s.cons.length
      · obtain ⟨b, off, va, vb, vc, rfl, l1, m1, c0, c1, c2, ta, tb, tc⟩ := (tC.keep be hw).at hlt
        obtain ⟨x, kx, rfl, lx, bx⟩ := ta.shape
        obtain ⟨y, ky, rfl, ly, by'⟩ := tb.shape
        obtain ⟨z, kz, rfl, lz, bz'⟩ := tc.shape
        have ti' := ti.keep be hl
        have HW := Lib.hid (HI.out _ (List.getElem_mem hlt))
        have bl : b < wr.heap.size := World.block_lt_of_cell? _ _ c0
        have lenF : (failL (fitF xs) 0 (s.cons.take k)).length ≤ k := Nat.le_trans (failL_len _ _ _) (by simp; omega)
        cases hh : holdsB xs s.cons[k]
        · have HT := Lib.hid (failL_step (f := fitF xs) hlt false (by simp [fitF, H4.out, hh]))
          have HH : Hid (conHold xs s.cons[k] = false) := Lib.hid (by simp [conHold, H4.out, HW.out, hh])
          have HG := Lib.hid hh
          clear hh
          have lcI : w.heap.size < wr.heap.size := World.block_lt_of_cell? _ _ cI
          go_wp2_with fail
          refine name_call fun wp1 hwp1 => ?_
          have bp1 : Below w.heap.size w wp1 := by rw [hwp1]; (repeat (first | with_reducible exact Below.refl _ _ | with_reducible assumption | with_reducible refine Below.drew ?_ | with_reducible refine bdrewN ?_ _ | ((with_reducible refine balloc ?_ ?_ _); (focus (first | with_reducible exact Nat.le_refl _ | (simp; done) | omega | (simp; omega) | exact Nat.le_refl _))) | ((with_reducible refine bset ?_ ?_ _); (focus (first | with_reducible exact Nat.le_refl _ | (simp; done) | omega | (simp; omega) | exact Nat.le_refl _)))))
          have zp1 : wr.heap.size + 0 ≤ wp1.heap.size := by rw [hwp1]; simp
          have ep1 : Below wr.heap.size wr wp1 := by rw [hwp1]; (repeat (first | with_reducible exact Below.refl _ _ | with_reducible assumption | with_reducible refine Below.drew ?_ | with_reducible refine bdrewN ?_ _ | ((with_reducible refine balloc ?_ ?_ _); (focus (first | with_reducible exact Nat.le_refl _ | (simp; done) | omega | (simp; omega) | exact Nat.le_refl _))) | ((with_reducible refine bset ?_ ?_ _); (focus (first | with_reducible exact Nat.le_refl _ | (simp; done) | omega | (simp; omega) | exact Nat.le_refl _)))))
          have cIp1 := cell_keep ep1 cI
          have cOp1 := cell_keep ep1 cO
          have cHp1 := cell_keep ep1 cH
          have cCp1 := cell_keep ep1 cC
          have tAp1 := ta.keep ep1 (by omega)
          have tBp1 := tb.keep ep1 (by omega)
          have tCp1 := tc.keep ep1 (by omega)
          have tVp1 := ti'.keep ep1 (by omega)
          clear hwp1 lcI cI cO cH cC ta tb tc ti'
          have hrow1 := row_keep hrow ep1
          clear hrow
          refine (hold_spec o l h _ _ _ s.cons[k] lim _ xs _ tAp1 tBp1 tCp1 (by omega) tVp1 (by omega) ni).mono ?_; rw [HH.out]; rintro e wp2 ⟨rfl, fp2⟩
          have bp2 := bp1.trans (fp2.mono (by omega))
          have zp2 := fp2.size
          have cIp2 := cell_keep fp2 cIp1
          have cOp2 := cell_keep fp2 cOp1
          have cHp2 := cell_keep fp2 cHp1
          have cCp2 := cell_keep fp2 cCp1
          have tAp2 := tAp1.keep fp2 (by omega)
          have tBp2 := tBp1.keep fp2 (by omega)
          have tCp2 := tCp1.keep fp2 (by omega)
          have tVp2 := tVp1.keep fp2 (by omega)
          clear cIp1 cOp1 cHp1 cCp1 tAp1 tBp1 tCp1 tVp1
          have hrow2 := row_keep hrow1 fp2
          clear hrow1
          have lw : w.heap.size < wp2.heap.size := World.block_lt_of_cell? _ _ cIp2
          have HU : Hid (failL (fitF xs) 0 (s.cons.take (k + 1)) = failL (fitF xs) 0 (s.cons.take k) ++ [(k : Int)]) := Lib.hid (by rw [HT.out, if_neg (by simp)])
          generalize failL (fitF xs) 0 (s.cons.take k) = F at *
          go_wp2_with (at_builtin; refine wpList_append_own _ rfl _ _ 46 rfl (w.heap.size + 1) 3 i0 (.int .i64 0) 1 8 Try.underlying46 hi0 hz0 hz1 hz2 rfl (by decide) _ _ _ rfl (hrow2.alloc _) ⟨wp2.heap.size, 0, none⟩ 1 1 [.int .i64 ((k : Int))] rfl rfl (cell_one_new' _ _ _) (by simp [Value.oneCell']) (by unfold maxLen; omega) (by omega) (by simp; omega) ?_; intro v' w5 hown' hgrow _)
          have eB : Below (w.heap.size + 1) (wp2.alloc (.cells #[.int .i64 ((k : Int))] 3)) w5 := (Below.refl _ _).grown hgrow (by simp; omega) (fun j ej => (hrow2.lt j ej).1)
          have be5 : Below w.heap.size w w5 := (bp2.alloc (by omega) (.cells #[.int .i64 ((k : Int))] 3)).trans (eB.mono (by omega))
          have z5 := hgrow.size
          simp only [World.size_alloc] at z5
          have kI := (eB.cell (p := ⟨w.heap.size, 0, none⟩) (Nat.lt_succ_self _)).trans (alloc_keep cIp2)
          have kO := (eB.cell (p := ⟨w.heap.size, 1, none⟩) (Nat.lt_succ_self _)).trans (alloc_keep cOp2)
          have kH := (eB.cell (p := ⟨w.heap.size, 2, none⟩) (Nat.lt_succ_self _)).trans (alloc_keep cHp2)
          have kC := (eB.cell (p := ⟨w.heap.size, 3, none⟩) (Nat.lt_succ_self _)).trans (alloc_keep cCp2)
          clear cIp2 cOp2 cHp2 cCp2 hrow2
          go_roundw
          case rel => exact ⟨k + 1, by omega, by go_num, be5, by omega, kI, kO, kH, kC, by rw [HU.out]; simpa using hown'⟩
          case measure => simp [intOf]; omega
        have HT : Hid (failL (fitF xs) 0 (s.cons.take (k + 1)) = failL (fitF xs) 0 (s.cons.take k)) := Lib.hid (by rw [failL_step (f := fitF xs) hlt true (by simp [fitF, H4.out, hh])]; simp)
        have HH : Hid (conHold xs s.cons[k] = true) := Lib.hid (by simp [conHold, H4.out, HW.out, hh])
        have HG := Lib.hid hh
        clear hh
        have lcI : w.heap.size < wr.heap.size := World.block_lt_of_cell? _ _ cI
        go_wp2_with fail
        refine name_call fun wq1 hwq1 => ?_
        have bq1 : Below w.heap.size w wq1 := by rw [hwq1]; (repeat (first | with_reducible exact Below.refl _ _ | with_reducible assumption | with_reducible refine Below.drew ?_ | with_reducible refine bdrewN ?_ _ | ((with_reducible refine balloc ?_ ?_ _); (focus (first | with_reducible exact Nat.le_refl _ | (simp; done) | omega | (simp; omega) | exact Nat.le_refl _))) | ((with_reducible refine bset ?_ ?_ _); (focus (first | with_reducible exact Nat.le_refl _ | (simp; done) | omega | (simp; omega) | exact Nat.le_refl _)))))
        have zq1 : wr.heap.size + 0 ≤ wq1.heap.size := by rw [hwq1]; simp
        have eq1 : Below wr.heap.size wr wq1 := by rw [hwq1]; (repeat (first | with_reducible exact Below.refl _ _ | with_reducible assumption | with_reducible refine Below.drew ?_ | with_reducible refine bdrewN ?_ _ | ((with_reducible refine balloc ?_ ?_ _); (focus (first | with_reducible exact Nat.le_refl _ | (simp; done) | omega | (simp; omega) | exact Nat.le_refl _))) | ((with_reducible refine bset ?_ ?_ _); (focus (first | with_reducible exact Nat.le_refl _ | (simp; done) | omega | (simp; omega) | exact Nat.le_refl _)))))
        have cIq1 := cell_keep eq1 cI
        have cOq1 := cell_keep eq1 cO
        have cHq1 := cell_keep eq1 cH
        have cCq1 := cell_keep eq1 cC
        have tAq1 := ta.keep eq1 (by omega)
        have tBq1 := tb.keep eq1 (by omega)
        have tCq1 := tc.keep eq1 (by omega)
        have tVq1 := ti'.keep eq1 (by omega)
        clear hwq1 lcI cI cO cH cC ta tb tc ti'
        have hrow1 := row_keep hrow eq1
        clear hrow
        refine (hold_spec o l h _ _ _ s.cons[k] lim _ xs _ tAq1 tBq1 tCq1 (by omega) tVq1 (by omega) ni).mono ?_; rw [HH.out]; rintro e wq2 ⟨rfl, fq2⟩
        have bq2 := bq1.trans (fq2.mono (by omega))
        have zq2 := fq2.size
        have cIq2 := cell_keep fq2 cIq1
        have cOq2 := cell_keep fq2 cOq1
        have cHq2 := cell_keep fq2 cHq1
        have cCq2 := cell_keep fq2 cCq1
        have tAq2 := tAq1.keep fq2 (by omega)
        have tBq2 := tBq1.keep fq2 (by omega)
        have tCq2 := tCq1.keep fq2 (by omega)
        have tVq2 := tVq1.keep fq2 (by omega)
        clear cIq1 cOq1 cHq1 cCq1 tAq1 tBq1 tCq1 tVq1
        have hrow2 := row_keep hrow1 fq2
        clear hrow1
        go_wp2_with fail
        go_roundw
        case rel => exact ⟨k + 1, by omega, by go_num, bq2, by omega, cIq2, cOq2, cHq2, cCq2, by rw [HT.out]; exact hrow2⟩
        case measure => simp [intOf]; omega
      · obtain rfl : k = s.cons.length := by omega
        rw [List.take_length] at hrow
        have ht := (Nums.own (ts := failL (fitF xs) 0 s.cons) hrow (fun x hx => by have := failL_bd _ _ _ x hx; unfold Fits; omega)).mono (l' := w.heap.size) (h' := wr.heap.size) (by omega) (Nat.le_refl _)
        obtain ⟨g, cg, rfl, lg, bg⟩ := ht.shape
        clear hrow
        go_wp2_with fail
        go_ret
        exact ⟨_, rfl, be, by rw [HR.out]; exact ht⟩
end Go.Proofs.Ytaohghgdjnkgdaa.L
