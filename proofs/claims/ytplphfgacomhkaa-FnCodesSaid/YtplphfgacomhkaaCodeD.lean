/- Draws of bytes and of characters. -/
import Derived.Test.YtplphfgacomhkaaList
import Derived.Test.YtplphfgacomhkaaRow
import Derived.Test.YtplphfgacomhkaaCodeM
namespace Go.Proofs.Ytplphfgacomhkaa.L
open Go.RowKit Go.Proofs.Ytplphfgacomhkaa.S
set_option linter.unusedVariables false
set_option linter.unusedSimpArgs false

theorem Nums.grown2 {own : Bool} {l h c : Nat} {w w' : World} {v : Value} {xs : List Int} (t : Nums own l h w v xs) (g : w.grownBy w' (some c)) (hc : c < l) (hs : h ≤ w.heap.size) : Nums own l h w' v xs := by
  obtain ⟨a, cap, rfl, h1, h2, h3, h4⟩ := t
  refine ⟨a, cap, rfl, h1, h2, h3, ?_⟩
  rcases h4 with h4 | ⟨b, off, e, hl, hlt, hf, hcell⟩
  · exact .inl h4
  · have hb := g.block b (by omega) (by simp; omega)
    exact .inr ⟨b, off, e, hl, hlt, fun q j => by rw [frozen_at hb]; exact hf q j, fun j x hj => by rw [cell_at hb]; exact hcell j x hj⟩
/-- What a store into a row wants. -/
theorem Nums.ready {l h : Nat} {w : World} {v : Value} {xs : List Int} (t : Nums true l h w v xs) {k : Nat} (hk : k < xs.length) :
    ∃ b off cap y, v = .slice (some ⟨b, off, none⟩) xs.length cap ∧ xs.length ≤ cap ∧ cap ≤ 9223372036854775807 ∧ l ≤ b ∧ b < h ∧ w.cell? ⟨b, off + k, none⟩ = some (.int .i64 y) ∧ w.frozen? ⟨b, off + k, none⟩ = false ∧
      ∀ x, S.Fits x → Nums true l h (w.setCell ⟨b, off + k, none⟩ (.int .i64 x)) v (xs.set k x) := by
  obtain ⟨a, cap, e, h1, h2, h3, h4⟩ := id t
  rcases h4 with h4 | ⟨b, off, e', hl, hlt, hf, hc⟩
  · rw [h4] at hk; simp at hk
  · subst e' e
    exact ⟨b, off, cap, _, rfl, h1, h2, hl, hlt, hc k _ (List.getElem?_eq_getElem hk), hf rfl _, fun x fx => t.put hk x fx⟩
theorem cur_store {B c b j : Nat} {w : World} {a : Option Addr} {len cap : Nat} (h : Cur B w c a len cap) (hb : B ≤ b) (hc : c ≠ b) (v : Value) : Cur B (w.setCell ⟨b, j, none⟩ v) c a len cap :=
  h.keep ((Below.refl B w).setCell (p := ⟨b, j, none⟩) hb v) (Below.heap_setCell _ _ _ _ (by simp; omega))
theorem grown_store {c b j : Nat} {w w' : World} (h : w.grownBy w' (some c)) (hb : w.heap.size ≤ b) (v : Value) : w.grownBy (w'.setCell ⟨b, j, none⟩ v) (some c) :=
  ⟨h.os, h.tape, h.output, by rw [World.size_setCell]; exact h.size, fun i hi hn => (Below.heap_setCell _ _ _ _ (by simp; omega)).trans (h.block i hi hn)⟩
theorem fits_snoc {xs : List Int} {y : Int} (h : ∀ x ∈ xs, S.Fits x) (hy : S.Fits y) : ∀ x ∈ xs ++ [y], S.Fits x := by
  intro z hz
  rcases List.mem_append.1 hz with hz | hz
  · exact h z hz
  · simp at hz; rw [hz]; exact hy
def DrawnC (B c : Nat) (a : Option Addr) (len cap n : Nat) (w : World) (e : Ending) (w' : World) : Prop :=
  ∃ u xs, e = .returned u ∧ Nums true w.heap.size w'.heap.size w' u xs ∧ xs.length = n ∧ Cur B w' c a len cap ∧ w.grownBy w' (some c)
def DrawnF (w : World) (e : Ending) (w' : World) : Prop :=
  ∃ u xs, e = .returned u ∧ Nums true w.heap.size w'.heap.size w' u xs ∧ xs.length ≤ 20 ∧ Below w.heap.size w w'

set_option maxRecDepth 1000000 in
set_option maxHeartbeats 3200000 in
theorem l7text_any (B c : Nat) (a : Option Addr) (len cap : Nat) (m : Nat) (w : World) (hm : m ≤ 20) (hB : B ≤ w.heap.size) (hcur : Cur B w c a len cap) :
    Calls Try.prog 35 #[.pointer (some ⟨c, 0, none⟩), .int .i64 (m : Int)] w (DrawnC B c a len cap m w) := by
  obtain ⟨i0, hi, hz0, hz1, hz2⟩ := info_parts Go.Proofs.Ytplphfgacomhkaa.intInfo
  have hcs : c < w.heap.size := World.block_lt_of_cell? w ⟨c, 0, none⟩ hcur.c0
  have cu0 := hcur
  have gr0 := grownBy.refl w (some c)
  clear hcur
  go_enter Try.func35, Try.ntmps35
  go_wp2_with fail
  go_loopw [5, 6] (fun v i wr => ∃ (k : Nat) (xs : List Int), k ≤ m ∧ i = .int .i64 k ∧ xs.length = k ∧ (∀ x ∈ xs, S.Fits x) ∧ wr.ownsRow w.heap.size 3 1 v k (xs.map (Value.int .i64)) ∧ Cur B wr c a len cap ∧ w.grownBy wr (some c)) (fun _ i _ => m - (intOf i).toNat)
  case atStart => exact ⟨0, [], Nat.zero_le _, rfl, rfl, by simp, World.ownsRow_nil _ _ _ _, cu0, gr0⟩
  case round =>
    obtain ⟨k, xs, hk, rfl, hx, hfit, hown, cu, gr⟩ := hrel
    have hBr : B ≤ wr.heap.size := Nat.le_trans hB gr.size
    have hne := own_ne hown hcs
    clear gr0 cu0
    by_cases hlt : k < m
    · go_wp2_with fail
      refine (l1Below_any B c a len cap 64 _ (by omega) hBr cu).mono ?_
      rintro e w1 ⟨x, rfl, ⟨x0, x1⟩, cu1, gr1⟩
      obtain ⟨q, rfl⟩ := Int.eq_ofNat_of_zero_le x0
      have hq : q < 64 := by omega
      have hix := idx_cs (P := Try.prog) 9 Try.underlying9 q hq
      unfold cs at hix
      obtain ⟨ch0, ch1⟩ := ch_in hq
      clear x0 x1
      have gr1' := grownBy.trans gr gr1
      have hown1 := hown.kept gr1 (.inr hne)
      have hB1 : B ≤ w1.heap.size := Nat.le_trans hBr gr1.size
      have hc1 : c < w1.heap.size := Nat.lt_of_lt_of_le hcs gr1'.size
      have hs1 : w.heap.size ≤ w1.heap.size := gr1'.size
      have cu4 := cu1.keep ((Below.refl B w1).alloc hB1 (.cells #[.int .i64 ((chN q : Int))] 3)) (Below.heap_alloc _ _ _ hc1)
      have gr4 := grownBy.alloc gr1' (.cells #[.int .i64 ((chN q : Int))] 3)
      clear hown gr cu
      go_wp2_with (at_builtin; refine wpList_append_own _ rfl _ _ 24 rfl w.heap.size 3 i0 (.int .i64 0) 1 8 Try.underlying24 hi hz0 hz1 hz2 rfl (by decide) _ _ _ rfl (hown1.alloc _) ⟨w1.heap.size, 0, none⟩ 1 1 [.int .i64 ((chN q : Int))] rfl rfl (cell_one_new' _ _ _) (by simp [Value.oneCell']) (by unfold maxLen; omega) (by omega) (by simp; omega) ?_; intro v' w5 hown5 hgr5 _)
      have cu5 := cu4.own hB hcs (by simp; omega) (hown1.alloc _) hgr5
      have gr5 := grown_own gr4 (Nat.le_refl _) (hown1.alloc _) hgr5
      have fit5 := fits_snoc hfit (show S.Fits (chN q : Int) by unfold S.Fits; omega)
      have hown5' : w5.ownsRow w.heap.size 3 1 v' (k + 1) ((xs ++ [(chN q : Int)]).map (Value.int .i64)) := by
        rw [List.map_append]; exact hown5
      clear hown5 hgr5 hown1 cu4 gr4 cu1 gr1 gr1'
      go_wp2_with fail
      go_roundw
      case rel => exact ⟨k + 1, xs ++ [(chN q : Int)], by omega, by go_num, by simp [hx], fit5, hown5', cu5, gr5⟩
      case measure => simp [intOf]; omega
    · obtain rfl : k = m := by omega
      obtain rfl := hx
      have N := Nums.own hown (fun x hx => hfit x hx)
      have hcr : c < wr.heap.size := Nat.lt_of_lt_of_le hcs gr.size
      clear hown
      by_cases hz : 0 < xs.length
      case' neg =>
        have hdz : decide (0 < (xs.length : Int)) = false := decide_eq_false (by omega)
        obtain ⟨ra, rc, rfl, rl, rb⟩ := N.shape
        go_wp2_with fail
        go_ret
        exact ⟨_, xs, rfl, N, rfl, cu, gr⟩
      have hdz : decide (0 < (xs.length : Int)) = true := decide_eq_true (by omega)
      go_wp2_with fail
      refine (l1Once_any B c a len cap 4 _ (by omega) hBr cu).mono ?_
      rintro e w1 ⟨bo, rfl, cu1, gr1⟩
      have gr1' := grownBy.trans gr gr1
      have N1 := (N.grown2 gr1 hcs (Nat.le_refl _)).mono (Nat.le_refl _) gr1.size
      have hB1 : B ≤ w1.heap.size := Nat.le_trans hBr gr1.size
      have hc1 : c < w1.heap.size := Nat.lt_of_lt_of_le hcs gr1'.size
      clear N cu gr gr1
      obtain ⟨ra, rc, rfl, rl, rb⟩ := N1.shape
      cases bo
      · go_wp2_with fail
        go_ret
        exact ⟨_, xs, rfl, N1, rfl, cu1, gr1'⟩
      · go_wp2_with fail
        refine (l1Below_any B c a len cap (xs.length : Int) _ (by omega) hB1 cu1).mono ?_
        rintro e w2 ⟨x, rfl, ⟨x0, x1⟩, cu2, gr2⟩
        obtain ⟨q, rfl⟩ := Int.eq_ofNat_of_zero_le x0
        have hq : q < xs.length := by omega
        have gr2' := grownBy.trans gr1' gr2
        have N2 := (N1.grown2 gr2 hcs (Nat.le_refl _)).mono (Nat.le_refl _) gr2.size
        have hB2 : B ≤ w2.heap.size := Nat.le_trans hB1 gr2.size
        have hc2 : c < w2.heap.size := Nat.lt_of_lt_of_le hcs gr2'.size
        have hs2 : w.heap.size ≤ w2.heap.size := gr2'.size
        clear N1 cu1 gr1' gr2
        go_wp2_with fail
        have el4 := Elems.new (w := w2) (t := 3) (l := [61, -1, 0, 255, 65]) (P := S.Fits) _ rfl (by
          intro v hv
          simp only [List.mem_cons, List.not_mem_nil, or_false] at hv
          unfold S.Fits
          omega)
        have cuA4 := cu2.keep ((Below.refl B w2).alloc hB2 (.cells #[.int .i64 61, .int .i64 (-1), .int .i64 0, .int .i64 255, .int .i64 65] 3)) (Below.heap_alloc _ _ _ hc2)
        refine (l1PickInt_any B c a len cap w2.heap.size 0 5 5 S.Fits _ (by omega) (by omega) (by omega) (by simp) (by simp; omega) cuA4 el4).mono ?_
        rintro e w4 ⟨y, rfl, hy, cu4, gr4⟩
        have gr4' := grownBy.trans (grownBy.alloc gr2' (.cells #[.int .i64 61, .int .i64 (-1), .int .i64 0, .int .i64 255, .int .i64 65] 3)) gr4
        have N3 := N2.keep (w' := w2.alloc (.cells #[.int .i64 61, .int .i64 (-1), .int .i64 0, .int .i64 255, .int .i64 65] 3)) ((Below.refl w2.heap.size w2).alloc (Nat.le_refl _) _) (Nat.le_refl _)
        have z4 := gr4.size
        simp only [World.size_alloc] at z4
        have N4 := (N3.grown2 gr4 hcs (by simp)).mono (l' := w.heap.size) (h' := w4.heap.size) (Nat.le_refl _) (by omega)
        clear N2 N3 cu2 cuA4 el4 gr2' gr4
        obtain ⟨rb', ro, rc', y0, ev, lc', bc', lr, hr', cr, fr, PUT⟩ := N4.ready hq
        simp only [Value.slice.injEq] at ev
        obtain ⟨rfl, -, rfl⟩ := ev
        have put := PUT y hy
        have cu5 := cur_store cu4 (b := rb') (j := ro + q) (by omega) (by omega) (.int .i64 y)
        have gr5 := grown_store (b := rb') (j := ro + q) gr4' lr (.int .i64 y)
        clear N4 PUT gr4' cu4
        go_wp2_with fail
        go_ret
        exact ⟨_, xs.set q y, rfl, put.mono (Nat.le_refl _) (by simp), by simp, cu5, gr5⟩

set_option maxRecDepth 1000000 in
set_option maxHeartbeats 3200000 in
theorem drawDecode64_any (a : Option Addr) (len cap : Nat) (w : World) (hr : Row w.heap.size w a len) :
    Calls Try.prog 25 #[.slice a len cap] w (DrawnF w) := by
  go_enter Try.func25, Try.ntmps25
  go_wp2_with fail
  refine (l1New_any a len cap w hr).mono ?_
  rintro e w1 ⟨rfl, cu1, be1, sz1⟩
  have hcs1 : w.heap.size < w1.heap.size := by omega
  clear sz1
  go_wp2_with fail
  have el2 := Elems.new (w := w1) (t := 3) (l := [0, 4, 8, 16, 20, 3]) (P := (fun x => 0 ≤ x ∧ x ≤ 20)) _ rfl (by
    intro v hv
    simp only [List.mem_cons, List.not_mem_nil, or_false] at hv
    skip
    omega)
  have cuA2 := cu1.keep ((Below.refl w.heap.size w1).alloc be1.size (.cells #[.int .i64 0, .int .i64 4, .int .i64 8, .int .i64 16, .int .i64 20, .int .i64 3] 3)) (Below.heap_alloc _ _ _ hcs1)
  refine (l1PickInt_any w.heap.size w.heap.size a len cap w1.heap.size 0 6 6 (fun x => 0 ≤ x ∧ x ≤ 20) _ (by omega) (by omega) (by omega) (by simp) (by simp; omega) cuA2 el2).mono ?_
  rintro e w2 ⟨n, rfl, ⟨n0, n1⟩, cu2, gr2⟩
  have be2 := (be1.alloc be1.size (.cells #[.int .i64 0, .int .i64 4, .int .i64 8, .int .i64 16, .int .i64 20, .int .i64 3] 3)).trans (below_of_grown gr2 (Nat.le_refl _) (by simp; omega))
  obtain ⟨m, rfl⟩ := Int.eq_ofNat_of_zero_le n0
  clear el2 cuA2
  go_wp2_with fail
  refine (l7text_any w.heap.size w.heap.size a len cap m w2 (by omega) be2.size cu2).mono ?_
  rintro e w3 ⟨u, xs, rfl, N3, hl, cu3, gr3⟩
  have be3 := be2.trans (below_of_grown gr3 (Nat.le_refl _) be2.size)
  go_wp2_with fail
  go_ret
  exact ⟨_, xs, rfl, N3.mono be2.size (Nat.le_refl _), by omega, be3⟩

set_option maxRecDepth 1000000 in
set_option maxHeartbeats 3200000 in
theorem drawEncode64_any (a : Option Addr) (len cap : Nat) (w : World) (hr : Row w.heap.size w a len) :
    Calls Try.prog 23 #[.slice a len cap] w (DrawnF w) := by
  obtain ⟨i0, hi, hz0, hz1, hz2⟩ := info_parts Go.Proofs.Ytplphfgacomhkaa.intInfo
  go_enter Try.func23, Try.ntmps23
  go_wp2_with fail
  refine (l1New_any a len cap w hr).mono ?_
  rintro e w1 ⟨rfl, cu1, be1, sz1⟩
  have hcs1 : w.heap.size < w1.heap.size := by omega
  clear sz1
  go_wp2_with fail
  have el2 := Elems.new (w := w1) (t := 3) (l := [0, 3, 6, 12, 15, 2]) (P := (fun x => 0 ≤ x ∧ x ≤ 16)) _ rfl (by
    intro v hv
    simp only [List.mem_cons, List.not_mem_nil, or_false] at hv
    skip
    omega)
  have cuA2 := cu1.keep ((Below.refl w.heap.size w1).alloc be1.size (.cells #[.int .i64 0, .int .i64 3, .int .i64 6, .int .i64 12, .int .i64 15, .int .i64 2] 3)) (Below.heap_alloc _ _ _ hcs1)
  refine (l1PickInt_any w.heap.size w.heap.size a len cap w1.heap.size 0 6 6 (fun x => 0 ≤ x ∧ x ≤ 16) _ (by omega) (by omega) (by omega) (by simp) (by simp; omega) cuA2 el2).mono ?_
  rintro e W ⟨n, rfl, ⟨n0, n1⟩, cu0, gr2⟩
  have be2 := (be1.alloc be1.size (.cells #[.int .i64 0, .int .i64 3, .int .i64 6, .int .i64 12, .int .i64 15, .int .i64 2] 3)).trans (below_of_grown gr2 (Nat.le_refl _) (by simp; omega))
  obtain ⟨m, rfl⟩ := Int.eq_ofNat_of_zero_le n0
  have gr0 := grownBy.refl W (some w.heap.size)
  have hBW := be2.size
  have zz := gr2.size
  simp only [World.size_alloc] at zz
  have hcs : w.heap.size < W.heap.size := by omega
  have hm : m ≤ 16 := by omega
  clear el2 cuA2 cu1 gr2 n0 n1 be1 hcs1
  go_wp2_with fail
  go_loopw [4, 6] (fun v i wr => ∃ (k : Nat) (xs : List Int), k ≤ m ∧ i = .int .i64 k ∧ xs.length = k ∧ (∀ x ∈ xs, S.Fits x) ∧ wr.ownsRow W.heap.size 3 1 v k (xs.map (Value.int .i64)) ∧ Cur w.heap.size wr w.heap.size a len cap ∧ W.grownBy wr (some w.heap.size)) (fun _ i _ => m - (intOf i).toNat)
  case atStart => exact ⟨0, [], Nat.zero_le _, rfl, rfl, by simp, World.ownsRow_nil _ _ _ _, cu0, gr0⟩
  case round =>
    obtain ⟨k, xs, hk, rfl, hx, hfit, hown, cu, gr⟩ := hrel
    have hBr : w.heap.size ≤ wr.heap.size := Nat.le_trans hBW gr.size
    have hne := own_ne hown hcs
    clear gr0 cu0
    by_cases hlt : k < m
    · go_wp2_with fail
      refine (l1Byte_any w.heap.size w.heap.size a len cap _ hBr cu).mono ?_
      rintro e w1 ⟨x, rfl, bx, cu1, gr1⟩
      have gr1' := grownBy.trans gr gr1
      have hown1 := hown.kept gr1 (.inr hne)
      have hB1 : w.heap.size ≤ w1.heap.size := Nat.le_trans hBr gr1.size
      have hc1 : w.heap.size < w1.heap.size := Nat.lt_of_lt_of_le hcs gr1'.size
      have hs1 : W.heap.size ≤ w1.heap.size := gr1'.size
      have cu4 := cu1.keep ((Below.refl w.heap.size w1).alloc hB1 (.cells #[.int .i64 (x)] 3)) (Below.heap_alloc _ _ _ hc1)
      have gr4 := grownBy.alloc gr1' (.cells #[.int .i64 (x)] 3)
      clear hown gr cu
      go_wp2_with (at_builtin; refine wpList_append_own _ rfl _ _ 24 rfl W.heap.size 3 i0 (.int .i64 0) 1 8 Try.underlying24 hi hz0 hz1 hz2 rfl (by decide) _ _ _ rfl (hown1.alloc _) ⟨w1.heap.size, 0, none⟩ 1 1 [.int .i64 (x)] rfl rfl (cell_one_new' _ _ _) (by simp [Value.oneCell']) (by unfold maxLen; omega) (by omega) (by simp; omega) ?_; intro v' w5 hown5 hgr5 _)
      have cu5 := cu4.own hBW hcs (by simp; omega) (hown1.alloc _) hgr5
      have gr5 := grown_own gr4 (Nat.le_refl _) (hown1.alloc _) hgr5
      have fit5 := fits_snoc hfit (show S.Fits x by unfold S.Fits; omega)
      have hown5' : w5.ownsRow W.heap.size 3 1 v' (k + 1) ((xs ++ [x]).map (Value.int .i64)) := by
        rw [List.map_append]; exact hown5
      clear hown5 hgr5 hown1 cu4 gr4 cu1 gr1 gr1'
      go_wp2_with fail
      go_roundw
      case rel => exact ⟨k + 1, xs ++ [x], by omega, by go_num, by simp [hx], fit5, hown5', cu5, gr5⟩
      case measure => simp [intOf]; omega
    · obtain rfl : k = m := by omega
      obtain rfl := hx
      have N := Nums.own hown (fun x hx => hfit x hx)
      have hcr : w.heap.size < wr.heap.size := Nat.lt_of_lt_of_le hcs gr.size
      clear hown
      have be3 := be2.trans (below_of_grown gr (Nat.le_refl _) hBW)
      by_cases hz : 0 < xs.length
      case' neg =>
        have hdz : decide (0 < (xs.length : Int)) = false := decide_eq_false (by omega)
        obtain ⟨ra, rc, rfl, rl, rb⟩ := N.shape
        go_wp2_with fail
        go_ret
        exact ⟨_, xs, rfl, N.mono hBW (Nat.le_refl _), by omega, be3⟩
      have hdz : decide (0 < (xs.length : Int)) = true := decide_eq_true (by omega)
      go_wp2_with fail
      refine (l1Once_any w.heap.size w.heap.size a len cap 9 _ (by omega) hBr cu).mono ?_
      rintro e w1 ⟨bo, rfl, cu1, gr1⟩
      have be4 := be3.trans (below_of_grown gr1 (Nat.le_refl _) hBr)
      have N1 := (N.grown2 gr1 hcs (Nat.le_refl _)).mono (Nat.le_refl _) gr1.size
      clear N cu gr gr1 cu1
      cases bo
      · obtain ⟨ra, rc, rfl, rl, rb⟩ := N1.shape
        go_wp2_with fail
        go_ret
        exact ⟨_, xs, rfl, N1.mono hBW (Nat.le_refl _), by omega, be4⟩
      · obtain ⟨rb', ro, rc', y0, rfl, lc', bc', lr, hr', cr, fr, PUT⟩ := N1.ready (k := 0) hz
        have put := PUT 256 (by unfold S.Fits; omega)
        rw [Nat.add_zero] at cr fr put
        have be5 : Below w.heap.size w (w1.setCell ⟨rb', ro, none⟩ (.int .i64 256)) := be4.setCell (p := ⟨rb', ro, none⟩) (by show w.heap.size ≤ rb'; omega) _
        clear N1 PUT be4
        go_wp2_with fail
        go_ret
        exact ⟨_, xs.set 0 256, rfl, put.mono hBW (by simp), by simp; omega, be5⟩
end Go.Proofs.Ytplphfgacomhkaa.L
