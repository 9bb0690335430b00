/- The inputs of systems in assignments: the program's function and its model. -/
import Derived.Test.YtaohghgdjnkgdaaOuts
namespace Go.Proofs.Ytaohghgdjnkgdaa.L
open Go.RowKit Go.Proofs.Ytaohghgdjnkgdaa.S
set_option linter.unusedVariables false
set_option linter.unusedSimpArgs false

def insL (s : SysC) (xs : List Int) : List Int := if sysOk s = true ∧ (xs.length : Int) = varsN s then (xs.drop 1).take s.ins.toNat else []
theorem insL_len (s : SysC) (xs : List Int) : (insL s xs).length ≤ xs.length := by
  unfold insL
  split
  · simp; omega
  · simp

set_option maxRecDepth 100000 in
set_option maxHeartbeats 6400000 in
theorem insOf_impl (o l h vi vo vh vc) (s : SysC) (lim : Nat) (v : Value) (xs : List Int) (w : World) (t : SysR o l h w vi vo vh vc s) (hw : h ≤ w.heap.size) (ti : Ints lim w v xs) (hl : lim ≤ w.heap.size) (ni : xs.length ≤ 1048576) (nh : s.hints.length ≤ 1048576) (no : s.outs.length ≤ 1048576) (nc : s.cons.length ≤ 1048576) :
    Calls Try.prog 49 #[.agg #[vi, vo, vh, vc], v] w fun e w' => ∃ u, e = .returned u ∧ Below w.heap.size w w' ∧ Nums true w.heap.size w'.heap.size w' u (insL s xs) := by
  obtain ⟨tO, tH, tC⟩ := t.parts
  obtain ⟨ao, ko, ah, kh, ac, kc, rfl, rfl, rfl, rfl, lo, bo, lh, bh, lc, bc, fi⟩ := t.shape
  obtain ⟨i0, hi0, hz0, hz1, hz2⟩ := info_parts intInfo
  cases h1 : sysOk s
  · obtain ⟨ai, ki, rfl, lai, bai⟩ := ti.shape
    have HR : Hid (insL s xs = []) := Lib.hid (if_neg (by rw [h1]; simp))
    have H1 := Lib.hid h1
    clear h1
    go_enter Try.func49, Try.ntmps49
    go_wp2_with fail
    refine name_call fun w1 hw1 => ?_
    have b1 : Below w.heap.size w w1 := by rw [hw1]; (repeat (first | with_reducible exact Below.refl _ _ | with_reducible assumption | with_reducible refine Below.drew ?_ | with_reducible refine bdrewN ?_ _ | ((with_reducible refine balloc ?_ ?_ _); (focus (first | with_reducible exact Nat.le_refl _ | (simp; done) | omega | (simp; omega) | exact Nat.le_refl _))) | ((with_reducible refine bset ?_ ?_ _); (focus (first | with_reducible exact Nat.le_refl _ | (simp; done) | omega | (simp; omega) | exact Nat.le_refl _)))))
    have z1 : w.heap.size + 1 ≤ w1.heap.size := by rw [hw1]; simp
    have e1 : Below w.heap.size w w1 := by rw [hw1]; (repeat (first | with_reducible exact Below.refl _ _ | with_reducible assumption | with_reducible refine Below.drew ?_ | with_reducible refine bdrewN ?_ _ | ((with_reducible refine balloc ?_ ?_ _); (focus (first | with_reducible exact Nat.le_refl _ | (simp; done) | omega | (simp; omega) | exact Nat.le_refl _))) | ((with_reducible refine bset ?_ ?_ _); (focus (first | with_reducible exact Nat.le_refl _ | (simp; done) | omega | (simp; omega) | exact Nat.le_refl _)))))
    have cI1 : w1.cell? ⟨w.heap.size, 0, none⟩ = some (.int .i64 s.ins) := by rw [hw1]; first | (simp; done) | go_simp
    have cO1 : w1.cell? ⟨w.heap.size, 1, none⟩ = some (.slice ao s.outs.length ko) := by rw [hw1]; first | (simp; done) | go_simp
    have cH1 : w1.cell? ⟨w.heap.size, 2, none⟩ = some (.slice ah s.hints.length kh) := by rw [hw1]; first | (simp; done) | go_simp
    have cC1 : w1.cell? ⟨w.heap.size, 3, none⟩ = some (.slice ac s.cons.length kc) := by rw [hw1]; first | (simp; done) | go_simp
    have tS1 := t.keep e1 (by omega)
    have tV1 := ti.keep e1 (by omega)
    clear hw1
    refine (sysOk_implb o l h _ _ _ _ s _ tS1 (by omega) nh no nc _ H1.out).mono ?_; rintro e w2 ⟨rfl, f2⟩
    have b2 := b1.trans (f2.mono (by omega))
    have z2 := f2.size
    have cI2 := cell_keep f2 cI1
    have cO2 := cell_keep f2 cO1
    have cH2 := cell_keep f2 cH1
    have cC2 := cell_keep f2 cC1
    have tS2 := tS1.keep f2 (by omega)
    have tV2 := tV1.keep f2 (by omega)
    clear cI1 cO1 cH1 cC1 tS1 tV1
    go_wp2_with fail
    go_ret
    exact ⟨_, rfl, b2, by rw [HR.out]; exact Nums.nil _ _ _ _⟩
  obtain ⟨i1, i2, i3, i4, i5⟩ := limB_facts (sysOk_limB h1)
  by_cases h2 : (xs.length : Int) = varsN s
  case' neg =>
    obtain ⟨ai, ki, rfl, lai, bai⟩ := ti.shape
    have HR : Hid (insL s xs = []) := Lib.hid (if_neg (by rw [h1]; simp [h2]))
    have H1 := Lib.hid h1
    have e2 : ((xs.length : Int) != 1 + s.ins + (s.hints.length : Int)) = true := by unfold varsN at h2; simpa using h2
    clear h1 h2
    go_enter Try.func49, Try.ntmps49
    go_wp2_with fail
    refine name_call fun w1 hw1 => ?_
    have b1 : Below w.heap.size w w1 := by rw [hw1]; (repeat (first | with_reducible exact Below.refl _ _ | with_reducible assumption | with_reducible refine Below.drew ?_ | with_reducible refine bdrewN ?_ _ | ((with_reducible refine balloc ?_ ?_ _); (focus (first | with_reducible exact Nat.le_refl _ | (simp; done) | omega | (simp; omega) | exact Nat.le_refl _))) | ((with_reducible refine bset ?_ ?_ _); (focus (first | with_reducible exact Nat.le_refl _ | (simp; done) | omega | (simp; omega) | exact Nat.le_refl _)))))
    have z1 : w.heap.size + 1 ≤ w1.heap.size := by rw [hw1]; simp
    have e1 : Below w.heap.size w w1 := by rw [hw1]; (repeat (first | with_reducible exact Below.refl _ _ | with_reducible assumption | with_reducible refine Below.drew ?_ | with_reducible refine bdrewN ?_ _ | ((with_reducible refine balloc ?_ ?_ _); (focus (first | with_reducible exact Nat.le_refl _ | (simp; done) | omega | (simp; omega) | exact Nat.le_refl _))) | ((with_reducible refine bset ?_ ?_ _); (focus (first | with_reducible exact Nat.le_refl _ | (simp; done) | omega | (simp; omega) | exact Nat.le_refl _)))))
    have cI1 : w1.cell? ⟨w.heap.size, 0, none⟩ = some (.int .i64 s.ins) := by rw [hw1]; first | (simp; done) | go_simp
    have cO1 : w1.cell? ⟨w.heap.size, 1, none⟩ = some (.slice ao s.outs.length ko) := by rw [hw1]; first | (simp; done) | go_simp
    have cH1 : w1.cell? ⟨w.heap.size, 2, none⟩ = some (.slice ah s.hints.length kh) := by rw [hw1]; first | (simp; done) | go_simp
    have cC1 : w1.cell? ⟨w.heap.size, 3, none⟩ = some (.slice ac s.cons.length kc) := by rw [hw1]; first | (simp; done) | go_simp
    have tS1 := t.keep e1 (by omega)
    have tV1 := ti.keep e1 (by omega)
    clear hw1
    refine (sysOk_implb o l h _ _ _ _ s _ tS1 (by omega) nh no nc _ H1.out).mono ?_; rintro e w2 ⟨rfl, f2⟩
    have b2 := b1.trans (f2.mono (by omega))
    have z2 := f2.size
    have cI2 := cell_keep f2 cI1
    have cO2 := cell_keep f2 cO1
    have cH2 := cell_keep f2 cH1
    have cC2 := cell_keep f2 cC1
    have tS2 := tS1.keep f2 (by omega)
    have tV2 := tV1.keep f2 (by omega)
    clear cI1 cO1 cH1 cC1 tS1 tV1
    have lcI2 : w.heap.size < w2.heap.size := World.block_lt_of_cell? _ _ cI2
    go_wp2_with fail
    refine name_call fun w3 hw3 => ?_
    have b3 : Below w.heap.size w w3 := by rw [hw3]; (repeat (first | with_reducible exact Below.refl _ _ | with_reducible assumption | with_reducible refine Below.drew ?_ | with_reducible refine bdrewN ?_ _ | ((with_reducible refine balloc ?_ ?_ _); (focus (first | with_reducible exact Nat.le_refl _ | (simp; done) | omega | (simp; omega) | exact Nat.le_refl _))) | ((with_reducible refine bset ?_ ?_ _); (focus (first | with_reducible exact Nat.le_refl _ | (simp; done) | omega | (simp; omega) | exact Nat.le_refl _)))))
    have z3 : w2.heap.size + 0 ≤ w3.heap.size := by rw [hw3]; simp
    have e3 : Below w2.heap.size w2 w3 := by rw [hw3]; (repeat (first | with_reducible exact Below.refl _ _ | with_reducible assumption | with_reducible refine Below.drew ?_ | with_reducible refine bdrewN ?_ _ | ((with_reducible refine balloc ?_ ?_ _); (focus (first | with_reducible exact Nat.le_refl _ | (simp; done) | omega | (simp; omega) | exact Nat.le_refl _))) | ((with_reducible refine bset ?_ ?_ _); (focus (first | with_reducible exact Nat.le_refl _ | (simp; done) | omega | (simp; omega) | exact Nat.le_refl _)))))
    have cI3 := cell_keep e3 cI2
    have cO3 := cell_keep e3 cO2
    have cH3 := cell_keep e3 cH2
    have cC3 := cell_keep e3 cC2
    have tS3 := tS2.keep e3 (by omega)
    have tV3 := tV2.keep e3 (by omega)
    clear hw3 lcI2 cI2 cO2 cH2 cC2 tS2 tV2
    refine (vars_any s _ _ _ _ _ _ _ i1 i2 nh).mono ?_; rintro e w4 ⟨rfl, f4⟩
    have b4 := b3.trans (f4.mono (by omega))
    have z4 := f4.size
    have cI4 := cell_keep f4 cI3
    have cO4 := cell_keep f4 cO3
    have cH4 := cell_keep f4 cH3
    have cC4 := cell_keep f4 cC3
    have tS4 := tS3.keep f4 (by omega)
    have tV4 := tV3.keep f4 (by omega)
    clear cI3 cO3 cH3 cC3 tS3 tV3
    go_wp2_with fail
    go_ret
    exact ⟨_, rfl, b4, by rw [HR.out]; exact Nums.nil _ _ _ _⟩
  have HR : Hid (insL s xs = (xs.drop 1).take s.ins.toNat) := Lib.hid (if_pos ⟨h1, h2⟩)
  have H1 := Lib.hid h1
  have e2 : ((xs.length : Int) != 1 + s.ins + (s.hints.length : Int)) = false := by unfold varsN at h2; simpa using h2
  have e3 : 1 + s.ins ≤ (xs.length : Int) := by unfold varsN at h2; omega
  clear h1 h2
  have FX := Lib.hid (show ∀ x ∈ xs, Fits x from by obtain ⟨_, _, _, _, _, h3, _⟩ := ti; exact h3)
  obtain ⟨ai, ki, e, lai, bai, -, hr⟩ := id ti
  subst e
  rcases hr with rfl | ⟨b, off, rfl, hb, hcell⟩
  · simp at e3; omega
  obtain ⟨n, hn⟩ : ∃ n : Nat, s.ins = (n : Int) := ⟨s.ins.toNat, by omega⟩
  have HN := Lib.hid hn
  clear hn
  have A := Lib.hid hcell
  clear hcell
  have hL : (1 + s.ins).toNat - 1 = ((xs.drop 1).take s.ins.toNat).length := by have := HN.out; simp; omega
  have HL := Lib.hid hL
  clear hL
  by_cases hk1 : ki = 1
  · subst hk1
    go_enter Try.func49, Try.ntmps49
    go_wp2_with fail
    refine name_call fun w1 hw1 => ?_
    have b1 : Below w.heap.size w w1 := by rw [hw1]; (repeat (first | with_reducible exact Below.refl _ _ | with_reducible assumption | with_reducible refine Below.drew ?_ | with_reducible refine bdrewN ?_ _ | ((with_reducible refine balloc ?_ ?_ _); (focus (first | with_reducible exact Nat.le_refl _ | (simp; done) | omega | (simp; omega) | exact Nat.le_refl _))) | ((with_reducible refine bset ?_ ?_ _); (focus (first | with_reducible exact Nat.le_refl _ | (simp; done) | omega | (simp; omega) | exact Nat.le_refl _)))))
    have z1 : w.heap.size + 1 ≤ w1.heap.size := by rw [hw1]; simp
    have e1 : Below w.heap.size w w1 := by rw [hw1]; (repeat (first | with_reducible exact Below.refl _ _ | with_reducible assumption | with_reducible refine Below.drew ?_ | with_reducible refine bdrewN ?_ _ | ((with_reducible refine balloc ?_ ?_ _); (focus (first | with_reducible exact Nat.le_refl _ | (simp; done) | omega | (simp; omega) | exact Nat.le_refl _))) | ((with_reducible refine bset ?_ ?_ _); (focus (first | with_reducible exact Nat.le_refl _ | (simp; done) | omega | (simp; omega) | exact Nat.le_refl _)))))
    have cI1 : w1.cell? ⟨w.heap.size, 0, none⟩ = some (.int .i64 s.ins) := by rw [hw1]; first | (simp; done) | go_simp
    have cO1 : w1.cell? ⟨w.heap.size, 1, none⟩ = some (.slice ao s.outs.length ko) := by rw [hw1]; first | (simp; done) | go_simp
    have cH1 : w1.cell? ⟨w.heap.size, 2, none⟩ = some (.slice ah s.hints.length kh) := by rw [hw1]; first | (simp; done) | go_simp
    have cC1 : w1.cell? ⟨w.heap.size, 3, none⟩ = some (.slice ac s.cons.length kc) := by rw [hw1]; first | (simp; done) | go_simp
    have tS1 := t.keep e1 (by omega)
    have tV1 := ti.keep e1 (by omega)
    clear hw1
    refine (sysOk_implb o l h _ _ _ _ s _ tS1 (by omega) nh no nc _ H1.out).mono ?_; rintro e w2 ⟨rfl, f2⟩
    have b2 := b1.trans (f2.mono (by omega))
    have z2 := f2.size
    have cI2 := cell_keep f2 cI1
    have cO2 := cell_keep f2 cO1
    have cH2 := cell_keep f2 cH1
    have cC2 := cell_keep f2 cC1
    have tS2 := tS1.keep f2 (by omega)
    have tV2 := tV1.keep f2 (by omega)
    clear cI1 cO1 cH1 cC1 tS1 tV1
    have lcI2 : w.heap.size < w2.heap.size := World.block_lt_of_cell? _ _ cI2
    go_wp2_with fail
    refine name_call fun w3 hw3 => ?_
    have b3 : Below w.heap.size w w3 := by rw [hw3]; (repeat (first | with_reducible exact Below.refl _ _ | with_reducible assumption | with_reducible refine Below.drew ?_ | with_reducible refine bdrewN ?_ _ | ((with_reducible refine balloc ?_ ?_ _); (focus (first | with_reducible exact Nat.le_refl _ | (simp; done) | omega | (simp; omega) | exact Nat.le_refl _))) | ((with_reducible refine bset ?_ ?_ _); (focus (first | with_reducible exact Nat.le_refl _ | (simp; done) | omega | (simp; omega) | exact Nat.le_refl _)))))
    have z3 : w2.heap.size + 0 ≤ w3.heap.size := by rw [hw3]; simp
    have e3 : Below w2.heap.size w2 w3 := by rw [hw3]; (repeat (first | with_reducible exact Below.refl _ _ | with_reducible assumption | with_reducible refine Below.drew ?_ | with_reducible refine bdrewN ?_ _ | ((with_reducible refine balloc ?_ ?_ _); (focus (first | with_reducible exact Nat.le_refl _ | (simp; done) | omega | (simp; omega) | exact Nat.le_refl _))) | ((with_reducible refine bset ?_ ?_ _); (focus (first | with_reducible exact Nat.le_refl _ | (simp; done) | omega | (simp; omega) | exact Nat.le_refl _)))))
    have cI3 := cell_keep e3 cI2
    have cO3 := cell_keep e3 cO2
    have cH3 := cell_keep e3 cH2
    have cC3 := cell_keep e3 cC2
    have tS3 := tS2.keep e3 (by omega)
    have tV3 := tV2.keep e3 (by omega)
    clear hw3 lcI2 cI2 cO2 cH2 cC2 tS2 tV2
    refine (vars_any s _ _ _ _ _ _ _ i1 i2 nh).mono ?_; rintro e w4 ⟨rfl, f4⟩
    have b4 := b3.trans (f4.mono (by omega))
    have z4 := f4.size
    have cI4 := cell_keep f4 cI3
    have cO4 := cell_keep f4 cO3
    have cH4 := cell_keep f4 cH3
    have cC4 := cell_keep f4 cC3
    have tS4 := tS3.keep f4 (by omega)
    have tV4 := tV3.keep f4 (by omega)
    clear cI3 cO3 cH3 cC3 tS3 tV3
    have lw : w.heap.size < w4.heap.size := World.block_lt_of_cell? _ _ cI4
    go_wp2_with (at_builtin; refine wpList_append_own _ rfl _ _ 46 rfl w.heap.size 3 i0 (.int .i64 0) 1 8 Try.underlying46 hi0 hz0 hz1 hz2 rfl (by decide) _ _ _ rfl (World.ownsRow_nil _ _ _ _) _ _ _ (((xs.drop 1).take s.ins.toNat).map (Value.int .i64)) rfl ?qc1 ?qc2 ?qc3 ?qc4 ?qc5 ?qc6 ?_)
    case qc1 => rw [List.length_map, ← HL.out]; try simp
    case qc2 => intro j u hj; have := (List.getElem?_eq_some_iff.1 hj).1; simp at this; omega
    case qc3 => intro u hu; obtain ⟨x, _, rfl⟩ := List.mem_map.1 hu; rfl
    case qc4 => unfold maxLen; omega
    case qc5 => first | omega | (simp; omega)
    case qc6 => first | omega | (simp; omega)
    intro v' w5 hown hgrow hnil
    have hown' : w5.ownsRow w.heap.size 3 1 v' ((xs.drop 1).take s.ins.toNat).length (((xs.drop 1).take s.ins.toNat).map (Value.int .i64)) := by rw [← HL.out]; simpa using hown
    have ht := Nums.own hown' (fun x hx => FX.out x (List.mem_of_mem_drop (List.mem_of_mem_take hx)))
    obtain ⟨g, cg, rfl, lg, bg⟩ := ht.shape
    have be5 : Below w.heap.size w w5 := (show Below w.heap.size w _ by (repeat (first | with_reducible exact Below.refl _ _ | with_reducible assumption | with_reducible refine Below.drew ?_ | with_reducible refine bdrewN ?_ _ | ((with_reducible refine balloc ?_ ?_ _); (focus (first | with_reducible exact Nat.le_refl _ | (simp; done) | omega | (simp; omega) | exact Nat.le_refl _))) | ((with_reducible refine bset ?_ ?_ _); (focus (first | with_reducible exact Nat.le_refl _ | (simp; done) | omega | (simp; omega) | exact Nat.le_refl _)))))).grown hgrow (by first | omega | (simp; omega)) (by intro k hk; simp [Value.ownBlock] at hk; try omega)
    clear hown hown' hgrow
    go_wp2_with fail
    go_ret
    exact ⟨_, rfl, be5, by rw [HR.out]; exact ht⟩
  · go_enter Try.func49, Try.ntmps49
    go_wp2_with fail
    refine name_call fun w1 hw1 => ?_
    have b1 : Below w.heap.size w w1 := by rw [hw1]; (repeat (first | with_reducible exact Below.refl _ _ | with_reducible assumption | with_reducible refine Below.drew ?_ | with_reducible refine bdrewN ?_ _ | ((with_reducible refine balloc ?_ ?_ _); (focus (first | with_reducible exact Nat.le_refl _ | (simp; done) | omega | (simp; omega) | exact Nat.le_refl _))) | ((with_reducible refine bset ?_ ?_ _); (focus (first | with_reducible exact Nat.le_refl _ | (simp; done) | omega | (simp; omega) | exact Nat.le_refl _)))))
    have z1 : w.heap.size + 1 ≤ w1.heap.size := by rw [hw1]; simp
    have e1 : Below w.heap.size w w1 := by rw [hw1]; (repeat (first | with_reducible exact Below.refl _ _ | with_reducible assumption | with_reducible refine Below.drew ?_ | with_reducible refine bdrewN ?_ _ | ((with_reducible refine balloc ?_ ?_ _); (focus (first | with_reducible exact Nat.le_refl _ | (simp; done) | omega | (simp; omega) | exact Nat.le_refl _))) | ((with_reducible refine bset ?_ ?_ _); (focus (first | with_reducible exact Nat.le_refl _ | (simp; done) | omega | (simp; omega) | exact Nat.le_refl _)))))
    have cI1 : w1.cell? ⟨w.heap.size, 0, none⟩ = some (.int .i64 s.ins) := by rw [hw1]; first | (simp; done) | go_simp
    have cO1 : w1.cell? ⟨w.heap.size, 1, none⟩ = some (.slice ao s.outs.length ko) := by rw [hw1]; first | (simp; done) | go_simp
    have cH1 : w1.cell? ⟨w.heap.size, 2, none⟩ = some (.slice ah s.hints.length kh) := by rw [hw1]; first | (simp; done) | go_simp
    have cC1 : w1.cell? ⟨w.heap.size, 3, none⟩ = some (.slice ac s.cons.length kc) := by rw [hw1]; first | (simp; done) | go_simp
    have tS1 := t.keep e1 (by omega)
    have tV1 := ti.keep e1 (by omega)
    clear hw1
    refine (sysOk_implb o l h _ _ _ _ s _ tS1 (by omega) nh no nc _ H1.out).mono ?_; rintro e w2 ⟨rfl, f2⟩
    have b2 := b1.trans (f2.mono (by omega))
    have z2 := f2.size
    have cI2 := cell_keep f2 cI1
    have cO2 := cell_keep f2 cO1
    have cH2 := cell_keep f2 cH1
    have cC2 := cell_keep f2 cC1
    have tS2 := tS1.keep f2 (by omega)
    have tV2 := tV1.keep f2 (by omega)
    clear cI1 cO1 cH1 cC1 tS1 tV1
    have lcI2 : w.heap.size < w2.heap.size := World.block_lt_of_cell? _ _ cI2
    go_wp2_with fail
    refine name_call fun w3 hw3 => ?_
    have b3 : Below w.heap.size w w3 := by rw [hw3]; (repeat (first | with_reducible exact Below.refl _ _ | with_reducible assumption | with_reducible refine Below.drew ?_ | with_reducible refine bdrewN ?_ _ | ((with_reducible refine balloc ?_ ?_ _); (focus (first | with_reducible exact Nat.le_refl _ | (simp; done) | omega | (simp; omega) | exact Nat.le_refl _))) | ((with_reducible refine bset ?_ ?_ _); (focus (first | with_reducible exact Nat.le_refl _ | (simp; done) | omega | (simp; omega) | exact Nat.le_refl _)))))
    have z3 : w2.heap.size + 0 ≤ w3.heap.size := by rw [hw3]; simp
    have e3 : Below w2.heap.size w2 w3 := by rw [hw3]; (repeat (first | with_reducible exact Below.refl _ _ | with_reducible assumption | with_reducible refine Below.drew ?_ | with_reducible refine bdrewN ?_ _ | ((with_reducible refine balloc ?_ ?_ _); (focus (first | with_reducible exact Nat.le_refl _ | (simp; done) | omega | (simp; omega) | exact Nat.le_refl _))) | ((with_reducible refine bset ?_ ?_ _); (focus (first | with_reducible exact Nat.le_refl _ | (simp; done) | omega | (simp; omega) | exact Nat.le_refl _)))))
    have cI3 := cell_keep e3 cI2
    have cO3 := cell_keep e3 cO2
    have cH3 := cell_keep e3 cH2
    have cC3 := cell_keep e3 cC2
    have tS3 := tS2.keep e3 (by omega)
    have tV3 := tV2.keep e3 (by omega)
    clear hw3 lcI2 cI2 cO2 cH2 cC2 tS2 tV2
    refine (vars_any s _ _ _ _ _ _ _ i1 i2 nh).mono ?_; rintro e w4 ⟨rfl, f4⟩
    have b4 := b3.trans (f4.mono (by omega))
    have z4 := f4.size
    have cI4 := cell_keep f4 cI3
    have cO4 := cell_keep f4 cO3
    have cH4 := cell_keep f4 cH3
    have cC4 := cell_keep f4 cC3
    have tS4 := tS3.keep f4 (by omega)
    have tV4 := tV3.keep f4 (by omega)
    clear cI3 cO3 cH3 cC3 tS3 tV3
    have lw : w.heap.size < w4.heap.size := World.block_lt_of_cell? _ _ cI4
    go_wp2_with (at_builtin; refine wpList_append_own _ rfl _ _ 46 rfl w.heap.size 3 i0 (.int .i64 0) 1 8 Try.underlying46 hi0 hz0 hz1 hz2 rfl (by decide) _ _ _ rfl (World.ownsRow_nil _ _ _ _) _ _ _ (((xs.drop 1).take s.ins.toNat).map (Value.int .i64)) rfl ?qc1 ?qc2 ?qc3 ?qc4 ?qc5 ?qc6 ?_)
    case qc1 => rw [List.length_map, ← HL.out]; try simp
    case qc2 =>
      intro j u hj
      rw [List.getElem?_map] at hj
      obtain ⟨x, hx, rfl⟩ := Option.map_eq_some_iff.1 hj
      have hjn := (List.getElem?_eq_some_iff.1 hx).1
      rw [List.getElem?_take, if_pos (by simp at hjn; omega), List.getElem?_drop] at hx
      rw [Addr.add_lit]
      have c := A.out _ _ hx
      rw [← Nat.add_assoc] at c
      exact ((show Below w.heap.size w _ by (repeat (first | with_reducible exact Below.refl _ _ | with_reducible assumption | with_reducible refine Below.drew ?_ | with_reducible refine bdrewN ?_ _ | ((with_reducible refine balloc ?_ ?_ _); (focus (first | with_reducible exact Nat.le_refl _ | (simp; done) | omega | (simp; omega) | exact Nat.le_refl _))) | ((with_reducible refine bset ?_ ?_ _); (focus (first | with_reducible exact Nat.le_refl _ | (simp; done) | omega | (simp; omega) | exact Nat.le_refl _)))))).cell (p := ⟨b, off + 1 + j, none⟩) (by simp; omega)).trans c
    case qc3 => intro u hu; obtain ⟨x, _, rfl⟩ := List.mem_map.1 hu; rfl
    case qc4 => unfold maxLen; omega
    case qc5 => first | omega | (simp; omega)
    case qc6 => first | omega | (simp; omega)
    intro v' w5 hown hgrow hnil
    have hown' : w5.ownsRow w.heap.size 3 1 v' ((xs.drop 1).take s.ins.toNat).length (((xs.drop 1).take s.ins.toNat).map (Value.int .i64)) := by rw [← HL.out]; simpa using hown
    have ht := Nums.own hown' (fun x hx => FX.out x (List.mem_of_mem_drop (List.mem_of_mem_take hx)))
    obtain ⟨g, cg, rfl, lg, bg⟩ := ht.shape
    have be5 : Below w.heap.size w w5 := (show Below w.heap.size w _ by (repeat (first | with_reducible exact Below.refl _ _ | with_reducible assumption | with_reducible refine Below.drew ?_ | with_reducible refine bdrewN ?_ _ | ((with_reducible refine balloc ?_ ?_ _); (focus (first | with_reducible exact Nat.le_refl _ | (simp; done) | omega | (simp; omega) | exact Nat.le_refl _))) | ((with_reducible refine bset ?_ ?_ _); (focus (first | with_reducible exact Nat.le_refl _ | (simp; done) | omega | (simp; omega) | exact Nat.le_refl _)))))).grown hgrow (by first | omega | (simp; omega)) (by intro k hk; simp [Value.ownBlock] at hk; try omega)
    clear hown hown' hgrow
    go_wp2_with fail
    go_ret
    exact ⟨_, rfl, be5, by rw [HR.out]; exact ht⟩

set_option maxRecDepth 100000 in
set_option maxHeartbeats 6400000 in
theorem insOf_spec (o l h vi vo vh vc) (s : SysC) (lim : Nat) (v : Value) (xs : List Int) (w : World) (t : SysR o l h w vi vo vh vc s) (hw : h ≤ w.heap.size) (ti : Ints lim w v xs) (hl : lim ≤ w.heap.size) (ni : xs.length ≤ 1048576) (nh : s.hints.length ≤ 1048576) (no : s.outs.length ≤ 1048576) (nc : s.cons.length ≤ 1048576) :
    Calls Try.prog 48 #[.agg #[vi, vo, vh, vc], v] w fun e w' => ∃ u, e = .returned u ∧ Below w.heap.size w w' ∧ Nums true w.heap.size w'.heap.size w' u (insL s xs) := by
  obtain ⟨tO, tH, tC⟩ := t.parts
  obtain ⟨ao, ko, ah, kh, ac, kc, rfl, rfl, rfl, rfl, lo, bo, lh, bh, lc, bc, fi⟩ := t.shape
  obtain ⟨i0, hi0, hz0, hz1, hz2⟩ := info_parts intInfo
  cases h1 : sysOk s
  · obtain ⟨ai, ki, rfl, lai, bai⟩ := ti.shape
    have HR : Hid (insL s xs = []) := Lib.hid (if_neg (by rw [h1]; simp))
    have H1 := Lib.hid h1
    clear h1
    go_enter Try.func48, Try.ntmps48
    go_wp2_with fail
    refine name_call fun w1 hw1 => ?_
    have b1 : Below w.heap.size w w1 := by rw [hw1]; (repeat (first | with_reducible exact Below.refl _ _ | with_reducible assumption | with_reducible refine Below.drew ?_ | with_reducible refine bdrewN ?_ _ | ((with_reducible refine balloc ?_ ?_ _); (focus (first | with_reducible exact Nat.le_refl _ | (simp; done) | omega | (simp; omega) | exact Nat.le_refl _))) | ((with_reducible refine bset ?_ ?_ _); (focus (first | with_reducible exact Nat.le_refl _ | (simp; done) | omega | (simp; omega) | exact Nat.le_refl _)))))
    have z1 : w.heap.size + 1 ≤ w1.heap.size := by rw [hw1]; simp
    have e1 : Below w.heap.size w w1 := by rw [hw1]; (repeat (first | with_reducible exact Below.refl _ _ | with_reducible assumption | with_reducible refine Below.drew ?_ | with_reducible refine bdrewN ?_ _ | ((with_reducible refine balloc ?_ ?_ _); (focus (first | with_reducible exact Nat.le_refl _ | (simp; done) | omega | (simp; omega) | exact Nat.le_refl _))) | ((with_reducible refine bset ?_ ?_ _); (focus (first | with_reducible exact Nat.le_refl _ | (simp; done) | omega | (simp; omega) | exact Nat.le_refl _)))))
    have cI1 : w1.cell? ⟨w.heap.size, 0, none⟩ = some (.int .i64 s.ins) := by rw [hw1]; first | (simp; done) | go_simp
    have cO1 : w1.cell? ⟨w.heap.size, 1, none⟩ = some (.slice ao s.outs.length ko) := by rw [hw1]; first | (simp; done) | go_simp
    have cH1 : w1.cell? ⟨w.heap.size, 2, none⟩ = some (.slice ah s.hints.length kh) := by rw [hw1]; first | (simp; done) | go_simp
    have cC1 : w1.cell? ⟨w.heap.size, 3, none⟩ = some (.slice ac s.cons.length kc) := by rw [hw1]; first | (simp; done) | go_simp
    have tS1 := t.keep e1 (by omega)
    have tV1 := ti.keep e1 (by omega)
    clear hw1
    refine (sysOk_specb o l h _ _ _ _ s _ tS1 (by omega) nh no nc _ H1.out).mono ?_; rintro e w2 ⟨rfl, f2⟩
    have b2 := b1.trans (f2.mono (by omega))
    have z2 := f2.size
    have cI2 := cell_keep f2 cI1
    have cO2 := cell_keep f2 cO1
    have cH2 := cell_keep f2 cH1
    have cC2 := cell_keep f2 cC1
    have tS2 := tS1.keep f2 (by omega)
    have tV2 := tV1.keep f2 (by omega)
    clear cI1 cO1 cH1 cC1 tS1 tV1
    go_wp2_with fail
    go_ret
    exact ⟨_, rfl, b2, by rw [HR.out]; exact Nums.nil _ _ _ _⟩
  obtain ⟨i1, i2, i3, i4, i5⟩ := limB_facts (sysOk_limB h1)
  by_cases h2 : (xs.length : Int) = varsN s
  case' neg =>
    obtain ⟨ai, ki, rfl, lai, bai⟩ := ti.shape
    have HR : Hid (insL s xs = []) := Lib.hid (if_neg (by rw [h1]; simp [h2]))
    have H1 := Lib.hid h1
    have e2 : ((xs.length : Int) != 1 + s.ins + (s.hints.length : Int)) = true := by unfold varsN at h2; simpa using h2
    clear h1 h2
    go_enter Try.func48, Try.ntmps48
    go_wp2_with fail
    refine name_call fun w1 hw1 => ?_
    have b1 : Below w.heap.size w w1 := by rw [hw1]; (repeat (first | with_reducible exact Below.refl _ _ | with_reducible assumption | with_reducible refine Below.drew ?_ | with_reducible refine bdrewN ?_ _ | ((with_reducible refine balloc ?_ ?_ _); (focus (first | with_reducible exact Nat.le_refl _ | (simp; done) | omega | (simp; omega) | exact Nat.le_refl _))) | ((with_reducible refine bset ?_ ?_ _); (focus (first | with_reducible exact Nat.le_refl _ | (simp; done) | omega | (simp; omega) | exact Nat.le_refl _)))))
    have z1 : w.heap.size + 1 ≤ w1.heap.size := by rw [hw1]; simp
    have e1 : Below w.heap.size w w1 := by rw [hw1]; (repeat (first | with_reducible exact Below.refl _ _ | with_reducible assumption | with_reducible refine Below.drew ?_ | with_reducible refine bdrewN ?_ _ | ((with_reducible refine balloc ?_ ?_ _); (focus (first | with_reducible exact Nat.le_refl _ | (simp; done) | omega | (simp; omega) | exact Nat.le_refl _))) | ((with_reducible refine bset ?_ ?_ _); (focus (first | with_reducible exact Nat.le_refl _ | (simp; done) | omega | (simp; omega) | exact Nat.le_refl _)))))
    have cI1 : w1.cell? ⟨w.heap.size, 0, none⟩ = some (.int .i64 s.ins) := by rw [hw1]; first | (simp; done) | go_simp
    have cO1 : w1.cell? ⟨w.heap.size, 1, none⟩ = some (.slice ao s.outs.length ko) := by rw [hw1]; first | (simp; done) | go_simp
    have cH1 : w1.cell? ⟨w.heap.size, 2, none⟩ = some (.slice ah s.hints.length kh) := by rw [hw1]; first | (simp; done) | go_simp
    have cC1 : w1.cell? ⟨w.heap.size, 3, none⟩ = some (.slice ac s.cons.length kc) := by rw [hw1]; first | (simp; done) | go_simp
    have tS1 := t.keep e1 (by omega)
    have tV1 := ti.keep e1 (by omega)
    clear hw1
    refine (sysOk_specb o l h _ _ _ _ s _ tS1 (by omega) nh no nc _ H1.out).mono ?_; rintro e w2 ⟨rfl, f2⟩
    have b2 := b1.trans (f2.mono (by omega))
    have z2 := f2.size
    have cI2 := cell_keep f2 cI1
    have cO2 := cell_keep f2 cO1
    have cH2 := cell_keep f2 cH1
    have cC2 := cell_keep f2 cC1
    have tS2 := tS1.keep f2 (by omega)
    have tV2 := tV1.keep f2 (by omega)
    clear cI1 cO1 cH1 cC1 tS1 tV1
    go_wp2_with fail
    go_ret
    exact ⟨_, rfl, b2, by rw [HR.out]; exact Nums.nil _ _ _ _⟩
  have HR : Hid (insL s xs = (xs.drop 1).take s.ins.toNat) := Lib.hid (if_pos ⟨h1, h2⟩)
  have H1 := Lib.hid h1
  have e2 : ((xs.length : Int) != 1 + s.ins + (s.hints.length : Int)) = false := by unfold varsN at h2; simpa using h2
  have e3 : 1 + s.ins ≤ (xs.length : Int) := by unfold varsN at h2; omega
  clear h1 h2
  have FX := Lib.hid (show ∀ x ∈ xs, Fits x from by obtain ⟨_, _, _, _, _, h3, _⟩ := ti; exact h3)
  obtain ⟨ai, ki, e, lai, bai, -, hr⟩ := id ti
  subst e
  rcases hr with rfl | ⟨b, off, rfl, hb, hcell⟩
  · simp at e3; omega
  obtain ⟨n, hn⟩ : ∃ n : Nat, s.ins = (n : Int) := ⟨s.ins.toNat, by omega⟩
  have HN := Lib.hid hn
  clear hn
  have A := Lib.hid hcell
  clear hcell
  have hL : (1 + s.ins).toNat - 1 = ((xs.drop 1).take s.ins.toNat).length := by have := HN.out; simp; omega
  have HL := Lib.hid hL
  clear hL
  by_cases hk1 : ki = 1
  · subst hk1
    go_enter Try.func48, Try.ntmps48
    go_wp2_with fail
    refine name_call fun w1 hw1 => ?_
    have b1 : Below w.heap.size w w1 := by rw [hw1]; (repeat (first | with_reducible exact Below.refl _ _ | with_reducible assumption | with_reducible refine Below.drew ?_ | with_reducible refine bdrewN ?_ _ | ((with_reducible refine balloc ?_ ?_ _); (focus (first | with_reducible exact Nat.le_refl _ | (simp; done) | omega | (simp; omega) | exact Nat.le_refl _))) | ((with_reducible refine bset ?_ ?_ _); (focus (first | with_reducible exact Nat.le_refl _ | (simp; done) | omega | (simp; omega) | exact Nat.le_refl _)))))
    have z1 : w.heap.size + 1 ≤ w1.heap.size := by rw [hw1]; simp
    have e1 : Below w.heap.size w w1 := by rw [hw1]; (repeat (first | with_reducible exact Below.refl _ _ | with_reducible assumption | with_reducible refine Below.drew ?_ | with_reducible refine bdrewN ?_ _ | ((with_reducible refine balloc ?_ ?_ _); (focus (first | with_reducible exact Nat.le_refl _ | (simp; done) | omega | (simp; omega) | exact Nat.le_refl _))) | ((with_reducible refine bset ?_ ?_ _); (focus (first | with_reducible exact Nat.le_refl _ | (simp; done) | omega | (simp; omega) | exact Nat.le_refl _)))))
    have cI1 : w1.cell? ⟨w.heap.size, 0, none⟩ = some (.int .i64 s.ins) := by rw [hw1]; first | (simp; done) | go_simp
    have cO1 : w1.cell? ⟨w.heap.size, 1, none⟩ = some (.slice ao s.outs.length ko) := by rw [hw1]; first | (simp; done) | go_simp
    have cH1 : w1.cell? ⟨w.heap.size, 2, none⟩ = some (.slice ah s.hints.length kh) := by rw [hw1]; first | (simp; done) | go_simp
    have cC1 : w1.cell? ⟨w.heap.size, 3, none⟩ = some (.slice ac s.cons.length kc) := by rw [hw1]; first | (simp; done) | go_simp
    have tS1 := t.keep e1 (by omega)
    have tV1 := ti.keep e1 (by omega)
    clear hw1
    refine (sysOk_specb o l h _ _ _ _ s _ tS1 (by omega) nh no nc _ H1.out).mono ?_; rintro e w2 ⟨rfl, f2⟩
    have b2 := b1.trans (f2.mono (by omega))
    have z2 := f2.size
    have cI2 := cell_keep f2 cI1
    have cO2 := cell_keep f2 cO1
    have cH2 := cell_keep f2 cH1
    have cC2 := cell_keep f2 cC1
    have tS2 := tS1.keep f2 (by omega)
    have tV2 := tV1.keep f2 (by omega)
    clear cI1 cO1 cH1 cC1 tS1 tV1
    have lw : w.heap.size < w2.heap.size := World.block_lt_of_cell? _ _ cI2
    go_wp2_with (at_builtin; refine wpList_append_own _ rfl _ _ 46 rfl w.heap.size 3 i0 (.int .i64 0) 1 8 Try.underlying46 hi0 hz0 hz1 hz2 rfl (by decide) _ _ _ rfl (World.ownsRow_made w2 #[] 0 (show w.heap.size ≤ w2.heap.size by omega) (Nat.zero_le _) rfl) _ _ _ (((xs.drop 1).take s.ins.toNat).map (Value.int .i64)) rfl ?qc1 ?qc2 ?qc3 ?qc4 ?qc5 ?qc6 ?_)
    case qc1 => rw [List.length_map, ← HL.out]; try simp
    case qc2 => intro j u hj; have := (List.getElem?_eq_some_iff.1 hj).1; simp at this; omega
    case qc3 => intro u hu; obtain ⟨x, _, rfl⟩ := List.mem_map.1 hu; rfl
    case qc4 => unfold maxLen; omega
    case qc5 => first | omega | (simp; omega)
    case qc6 => first | omega | (simp; omega)
    intro v' w5 hown hgrow hnil
    have hown' : w5.ownsRow w.heap.size 3 1 v' ((xs.drop 1).take s.ins.toNat).length (((xs.drop 1).take s.ins.toNat).map (Value.int .i64)) := by rw [← HL.out]; simpa using hown
    have ht := Nums.own hown' (fun x hx => FX.out x (List.mem_of_mem_drop (List.mem_of_mem_take hx)))
    obtain ⟨g, cg, rfl, lg, bg⟩ := ht.shape
    have be5 : Below w.heap.size w w5 := (show Below w.heap.size w _ by (repeat (first | with_reducible exact Below.refl _ _ | with_reducible assumption | with_reducible refine Below.drew ?_ | with_reducible refine bdrewN ?_ _ | ((with_reducible refine balloc ?_ ?_ _); (focus (first | with_reducible exact Nat.le_refl _ | (simp; done) | omega | (simp; omega) | exact Nat.le_refl _))) | ((with_reducible refine bset ?_ ?_ _); (focus (first | with_reducible exact Nat.le_refl _ | (simp; done) | omega | (simp; omega) | exact Nat.le_refl _)))))).grown hgrow (by first | omega | (simp; omega)) (by intro k hk; simp [Value.ownBlock] at hk; try omega)
    clear hown hown' hgrow
    go_wp2_with fail
    go_ret
    exact ⟨_, rfl, be5, by rw [HR.out]; exact ht⟩
  · go_enter Try.func48, Try.ntmps48
    go_wp2_with fail
    refine name_call fun w1 hw1 => ?_
    have b1 : Below w.heap.size w w1 := by rw [hw1]; (repeat (first | with_reducible exact Below.refl _ _ | with_reducible assumption | with_reducible refine Below.drew ?_ | with_reducible refine bdrewN ?_ _ | ((with_reducible refine balloc ?_ ?_ _); (focus (first | with_reducible exact Nat.le_refl _ | (simp; done) | omega | (simp; omega) | exact Nat.le_refl _))) | ((with_reducible refine bset ?_ ?_ _); (focus (first | with_reducible exact Nat.le_refl _ | (simp; done) | omega | (simp; omega) | exact Nat.le_refl _)))))
    have z1 : w.heap.size + 1 ≤ w1.heap.size := by rw [hw1]; simp
    have e1 : Below w.heap.size w w1 := by rw [hw1]; (repeat (first | with_reducible exact Below.refl _ _ | with_reducible assumption | with_reducible refine Below.drew ?_ | with_reducible refine bdrewN ?_ _ | ((with_reducible refine balloc ?_ ?_ _); (focus (first | with_reducible exact Nat.le_refl _ | (simp; done) | omega | (simp; omega) | exact Nat.le_refl _))) | ((with_reducible refine bset ?_ ?_ _); (focus (first | with_reducible exact Nat.le_refl _ | (simp; done) | omega | (simp; omega) | exact Nat.le_refl _)))))
    have cI1 : w1.cell? ⟨w.heap.size, 0, none⟩ = some (.int .i64 s.ins) := by rw [hw1]; first | (simp; done) | go_simp
    have cO1 : w1.cell? ⟨w.heap.size, 1, none⟩ = some (.slice ao s.outs.length ko) := by rw [hw1]; first | (simp; done) | go_simp
    have cH1 : w1.cell? ⟨w.heap.size, 2, none⟩ = some (.slice ah s.hints.length kh) := by rw [hw1]; first | (simp; done) | go_simp
    have cC1 : w1.cell? ⟨w.heap.size, 3, none⟩ = some (.slice ac s.cons.length kc) := by rw [hw1]; first | (simp; done) | go_simp
    have tS1 := t.keep e1 (by omega)
    have tV1 := ti.keep e1 (by omega)
    clear hw1
    refine (sysOk_specb o l h _ _ _ _ s _ tS1 (by omega) nh no nc _ H1.out).mono ?_; rintro e w2 ⟨rfl, f2⟩
    have b2 := b1.trans (f2.mono (by omega))
    have z2 := f2.size
    have cI2 := cell_keep f2 cI1
    have cO2 := cell_keep f2 cO1
    have cH2 := cell_keep f2 cH1
    have cC2 := cell_keep f2 cC1
    have tS2 := tS1.keep f2 (by omega)
    have tV2 := tV1.keep f2 (by omega)
    clear cI1 cO1 cH1 cC1 tS1 tV1
    have lw : w.heap.size < w2.heap.size := World.block_lt_of_cell? _ _ cI2
    go_wp2_with (at_builtin; refine wpList_append_own _ rfl _ _ 46 rfl w.heap.size 3 i0 (.int .i64 0) 1 8 Try.underlying46 hi0 hz0 hz1 hz2 rfl (by decide) _ _ _ rfl (World.ownsRow_made w2 #[] 0 (show w.heap.size ≤ w2.heap.size by omega) (Nat.zero_le _) rfl) _ _ _ (((xs.drop 1).take s.ins.toNat).map (Value.int .i64)) rfl ?qc1 ?qc2 ?qc3 ?qc4 ?qc5 ?qc6 ?_)
    case qc1 => rw [List.length_map, ← HL.out]; try simp
    case qc2 =>
      intro j u hj
      rw [List.getElem?_map] at hj
      obtain ⟨x, hx, rfl⟩ := Option.map_eq_some_iff.1 hj
      have hjn := (List.getElem?_eq_some_iff.1 hx).1
      rw [List.getElem?_take, if_pos (by simp at hjn; omega), List.getElem?_drop] at hx
      rw [Addr.add_lit]
      have c := A.out _ _ hx
      rw [← Nat.add_assoc] at c
      exact ((show Below w.heap.size w _ by (repeat (first | with_reducible exact Below.refl _ _ | with_reducible assumption | with_reducible refine Below.drew ?_ | with_reducible refine bdrewN ?_ _ | ((with_reducible refine balloc ?_ ?_ _); (focus (first | with_reducible exact Nat.le_refl _ | (simp; done) | omega | (simp; omega) | exact Nat.le_refl _))) | ((with_reducible refine bset ?_ ?_ _); (focus (first | with_reducible exact Nat.le_refl _ | (simp; done) | omega | (simp; omega) | exact Nat.le_refl _)))))).cell (p := ⟨b, off + 1 + j, none⟩) (by simp; omega)).trans c
    case qc3 => intro u hu; obtain ⟨x, _, rfl⟩ := List.mem_map.1 hu; rfl
    case qc4 => unfold maxLen; omega
    case qc5 => first | omega | (simp; omega)
    case qc6 => first | omega | (simp; omega)
    intro v' w5 hown hgrow hnil
    have hown' : w5.ownsRow w.heap.size 3 1 v' ((xs.drop 1).take s.ins.toNat).length (((xs.drop 1).take s.ins.toNat).map (Value.int .i64)) := by rw [← HL.out]; simpa using hown
    have ht := Nums.own hown' (fun x hx => FX.out x (List.mem_of_mem_drop (List.mem_of_mem_take hx)))
    obtain ⟨g, cg, rfl, lg, bg⟩ := ht.shape
    have be5 : Below w.heap.size w w5 := (show Below w.heap.size w _ by (repeat (first | with_reducible exact Below.refl _ _ | with_reducible assumption | with_reducible refine Below.drew ?_ | with_reducible refine bdrewN ?_ _ | ((with_reducible refine balloc ?_ ?_ _); (focus (first | with_reducible exact Nat.le_refl _ | (simp; done) | omega | (simp; omega) | exact Nat.le_refl _))) | ((with_reducible refine bset ?_ ?_ _); (focus (first | with_reducible exact Nat.le_refl _ | (simp; done) | omega | (simp; omega) | exact Nat.le_refl _)))))).grown hgrow (by first | omega | (simp; omega)) (by intro k hk; simp [Value.ownBlock] at hk; try omega)
    clear hown hown' hgrow
    go_wp2_with fail
    go_ret
    exact ⟨_, rfl, be5, by rw [HR.out]; exact ht⟩
end Go.Proofs.Ytaohghgdjnkgdaa.L
