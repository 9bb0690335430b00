/- The draws of layer 5 over numbers. -/
import Derived.Test.YtldeckiflghpcaaList
import Derived.Test.YtldeckiflghpcaaMix3
namespace Go.Proofs.Ytldeckiflghpcaa.L
open Go.RowKit Go.Proofs.Ytldeckiflghpcaa.S
set_option linter.unusedVariables false
set_option linter.unusedSimpArgs false

theorem Nums.grown {own : Bool} {l h c : Nat} {w w' : World} {v : Value} {xs : List Int} (t : Nums own l h w v xs) (g : w.grownBy w' (some c)) (hc : c < l) (hs : h ≤ w.heap.size) : Nums own l h w' v xs := by
  obtain ⟨a, cap, rfl, h1, h2, h3, h4⟩ := t
  refine ⟨a, cap, rfl, h1, h2, h3, ?_⟩
  rcases h4 with h4 | ⟨b, off, e, hl, hlt, hf, hcell⟩
  · exact .inl h4
  · have hb := g.block b (by omega) (by simp; omega)
    exact .inr ⟨b, off, e, hl, hlt, fun q j => by rw [frozen_at hb]; exact hf q j, fun j x hj => by rw [cell_at hb]; exact hcell j x hj⟩
theorem Nums.tail {own : Bool} {l h : Nat} {w : World} {b off n m : Nat} {x : Int} {xs : List Int} (t : Nums own l h w (.slice (some ⟨b, off, none⟩) (n + 1) (m + 1)) (x :: xs)) : Nums own l h w (.slice (some ⟨b, off + 1, none⟩) n m) xs := by
  obtain ⟨a, cap, e, h1, h2, h3, h4⟩ := t
  simp only [Value.slice.injEq, List.length_cons] at e
  obtain ⟨rfl, e1, e2⟩ := e
  obtain rfl : n = xs.length := by omega
  simp only [List.length_cons] at h1
  refine ⟨_, m, rfl, by omega, by omega, fun y hy => h3 y (by simp [hy]), ?_⟩
  rcases h4 with h4 | ⟨b', off', e, hl, hlt, hf, hcell⟩
  · simp at h4
  · simp only [Option.some.injEq, Addr.mk.injEq, and_true] at e
    obtain ⟨rfl, rfl⟩ := e
    refine .inr ⟨b, off + 1, rfl, hl, hlt, hf, fun j y hj => ?_⟩
    have := hcell (j + 1) y (by simpa using hj)
    rw [show off + 1 + j = off + (j + 1) from by omega]
    exact this

/-- Small numbers, as they are drawn. -/
def Sm (x : Int) : Prop := -1 ≤ x ∧ x ≤ 256
theorem Sm.fits {x : Int} (h : Sm x) : S.Fits x := by unfold Sm at h; unfold S.Fits; omega
theorem isB.sm {x : Int} (h : isB x) : Sm x := by unfold isB at h; unfold Sm; omega
/-- A drawn row of small numbers. -/
def DrawnN (B c : Nat) (a : Option Addr) (len cap : Nat) (n : Nat) (w : World) (e : Ending) (w' : World) : Prop :=
  ∃ u xs, e = .returned u ∧ Nums true w.heap.size w'.heap.size w' u xs ∧ (∀ x ∈ xs, Sm x) ∧ xs.length = n ∧ Cur B w' c a len cap ∧ w.grownBy w' (some c)

theorem Nums.fourS {w0 : Nat} (w : World) (t : TypeId) (hw : w0 ≤ w.heap.size) {a b c d : Int} (ha : S.Fits a) (hb : S.Fits b) (hc : S.Fits c) (hd : S.Fits d) :
    Nums true w0 (w.alloc (.cells #[.int .i64 a, .int .i64 b, .int .i64 c, .int .i64 d] t)).heap.size (w.alloc (.cells #[.int .i64 a, .int .i64 b, .int .i64 c, .int .i64 d] t)) (.slice (some ⟨w.heap.size, 0, none⟩) 4 4) [a, b, c, d] := by
  refine ⟨some ⟨w.heap.size, 0, none⟩, 4, rfl, by simp, by omega, ?_, .inr ⟨w.heap.size, 0, rfl, hw, by simp, fun _ j => by simp, ?_⟩⟩
  · intro x hx
    simp only [List.mem_cons, List.not_mem_nil, or_false] at hx
    rcases hx with rfl | rfl | rfl | rfl <;> assumption
  · intro j x hj
    match j, hj with
    | 0, hj => simp at hj; subst hj; simp
    | 1, hj => simp at hj; subst hj; simp
    | 2, hj => simp at hj; subst hj; simp
    | 3, hj => simp at hj; subst hj; simp
    | j + 4, hj => simp at hj

set_option maxRecDepth 100000 in
set_option maxHeartbeats 1600000 in
theorem l5four_any (B c : Nat) (a : Option Addr) (len cap : Nat) (w : World) (hB : B ≤ w.heap.size) (hcur : Cur B w c a len cap) :
    Calls Try.prog 50 #[.pointer (some ⟨c, 0, none⟩)] w (DrawnN B c a len cap 4 w) := by
  go_enter Try.func50, Try.ntmps50
  go_wp2_with fail
  refine (l1Byte_any B c a len cap _ hB hcur).mono ?_
  rintro e w1 ⟨x0, rfl, b0, cu1, gr1⟩
  have hB1 := Nat.le_trans hB gr1.size
  go_wp2_with fail
  refine (l1Byte_any B c a len cap _ hB1 cu1).mono ?_
  rintro e w2 ⟨x1, rfl, b1, cu2, gr2⟩
  have hB2 := Nat.le_trans hB1 gr2.size
  go_wp2_with fail
  refine (l1Byte_any B c a len cap _ hB2 cu2).mono ?_
  rintro e w3 ⟨x2, rfl, b2, cu3, gr3⟩
  have hB3 := Nat.le_trans hB2 gr3.size
  go_wp2_with fail
  refine (l1Byte_any B c a len cap _ hB3 cu3).mono ?_
  rintro e w4 ⟨x3, rfl, b3, cu4, gr4⟩
  have hB4 := Nat.le_trans hB3 gr4.size
  have G4 := grownBy.trans gr1 (grownBy.trans gr2 (grownBy.trans gr3 gr4))
  have hcs : c < w4.heap.size := World.block_lt_of_cell? w4 ⟨c, 0, none⟩ cu4.c0
  have hcw : c < w.heap.size := World.block_lt_of_cell? w ⟨c, 0, none⟩ hcur.c0
  have zz := G4.size
  go_wp2_with fail
  refine name_call fun w5 hw5 => ?_
  have cu5 : Cur B w5 c a len cap := by rw [hw5]; exact cu4.keep ((Below.refl B w4).alloc hB4 _) (Below.heap_alloc _ _ _ hcs)
  have G5 : w.grownBy w5 (some c) := by rw [hw5]; exact grownBy.alloc G4 _
  have N5 : Nums true w.heap.size w5.heap.size w5 (.slice (some ⟨w4.heap.size, 0, none⟩) 4 4) [x0, x1, x2, x3] := by rw [hw5]; exact Nums.fourS w4 _ zz (isB.sm b0).fits (isB.sm b1).fits (isB.sm b2).fits (isB.sm b3).fits
  have hB5 : B ≤ w5.heap.size := by rw [hw5]; simp; omega
  have l5 : w4.heap.size < w5.heap.size := by rw [hw5]; simp
  clear hw5 gr1 gr2 gr3 gr4 cu1 cu2 cu3 cu4
  refine (l1Once_any B c a len cap 20 _ (by omega) hB5 cu5).mono ?_
  rintro e w6 ⟨bo, rfl, cu6, gr6⟩
  have G6 := grownBy.trans G5 gr6
  have N6 := (N5.grown gr6 hcw (Nat.le_refl _)).mono (Nat.le_refl _) gr6.size
  have z6 := gr6.size
  cases bo
  · go_wp2_with fail
    go_ret
    exact ⟨_, _, rfl, N6, by
      intro x hx
      simp only [List.mem_cons, List.not_mem_nil, or_false] at hx
      rcases hx with rfl | rfl | rfl | rfl
      · exact isB.sm b0
      · exact isB.sm b1
      · exact isB.sm b2
      · exact isB.sm b3, rfl, cu6, G6⟩
  · have put := N6.put (k := 0) (by simp) 256 (by unfold S.Fits; omega)
    obtain ⟨b', off', y, e', c0', e0, f0⟩ := N6.at (k := 0) (by simp)
    simp only [Option.some.injEq, Addr.mk.injEq, and_true] at e'; obtain ⟨rfl, rfl⟩ := e'
    have fz : w6.frozen? ⟨w4.heap.size, 0, none⟩ = false := by
      obtain ⟨a', cap', e, _, _, _, h4⟩ := N6
      rcases h4 with h4 | ⟨b', off', e', hl, hlt, hf, hcell⟩
      · simp at h4
      · simp only [Value.slice.injEq] at e
        obtain ⟨rfl, -, -⟩ := e
        simp only [Option.some.injEq, Addr.mk.injEq, and_true] at e'; obtain ⟨rfl, rfl⟩ := e'
        exact hf rfl 0
    rw [Nat.add_zero] at c0' put
    simp only [List.set_cons_zero] at put
    have cu7 : Cur B (w6.setCell ⟨w4.heap.size, 0, none⟩ (.int .i64 256)) c a len cap := cu6.keep ((Below.refl B w6).setCell (by show B ≤ w4.heap.size; exact hB4) _) (Below.heap_setCell _ _ _ _ (by simp; omega))
    have G7 : w.grownBy (w6.setCell ⟨w4.heap.size, 0, none⟩ (.int .i64 256)) (some c) :=
      ⟨G6.os, G6.tape, G6.output, by rw [World.size_setCell]; exact G6.size, fun i hi hn => (Below.heap_setCell _ _ _ _ (by simp; omega)).trans (G6.block i hi hn)⟩
    clear N5 N6 e0
    go_wp2_with fail
    go_ret
    exact ⟨_, _, rfl, put.mono (Nat.le_refl _) (by simp), by
      intro x hx
      simp only [List.mem_cons, List.not_mem_nil, or_false] at hx
      rcases hx with rfl | rfl | rfl | rfl
      · unfold Sm; omega
      · exact isB.sm b1
      · exact isB.sm b2
      · exact isB.sm b3, rfl, cu7, G7⟩

theorem Elems.pick {w : World} {t : TypeId} {l : List Int} (cs : Array Value) (hcs : cs = (l.map (Value.int .i64)).toArray) (h : ∀ x ∈ l, Sm x) : Elems (w.alloc (.cells cs t)) w.heap.size 0 l.length Sm := Elems.new cs hcs h

/-- A row of small numbers and one more. -/
def DrawnNI (w : World) (e : Ending) (w' : World) : Prop :=
  ∃ u xs m, e = .returned (.tuple #[u, .int .i64 m]) ∧ Nums true w.heap.size w'.heap.size w' u xs ∧ (∀ x ∈ xs, Sm x) ∧ xs.length ≤ 4 ∧ Sm m ∧ Below w.heap.size w w'

set_option maxRecDepth 100000 in
set_option maxHeartbeats 1600000 in
theorem drawMixStep_any (a : Option Addr) (len cap : Nat) (w : World) (hr : Row w.heap.size w a len) :
    Calls Try.prog 27 #[.slice a len cap] w (DrawnNI w) := by
  go_enter Try.func27, Try.ntmps27
  go_wp2_with fail
  refine (l1New_any a len cap w hr).mono ?_
  rintro e w1 ⟨rfl, cu1, be1, sz1⟩
  go_wp2_with fail
  refine (l5four_any w.heap.size w.heap.size a len cap w1 be1.size cu1).mono ?_
  rintro e w2 ⟨u, xs, rfl, N2, hs, hl, cu2, gr2⟩
  have be2 := be1.trans (below_of_grown gr2 (Nat.le_refl _) be1.size)
  have z2 := be2.size
  go_wp2_with fail
  refine (l1Once_any w.heap.size w.heap.size a len cap 12 _ (by omega) be2.size cu2).mono ?_
  rintro e w3 ⟨bo, rfl, cu3, gr3⟩
  have be3 := be2.trans (below_of_grown gr3 (Nat.le_refl _) be2.size)
  have N3 := (N2.grown gr3 (by omega) (Nat.le_refl _)).mono (l' := w1.heap.size) (h' := w3.heap.size) (Nat.le_refl _) gr3.size
  have z3 := be3.size
  clear N2 gr2 gr3 cu1 be1
  obtain ⟨h0, h1, h2, h3, rfl⟩ : ∃ h0 h1 h2 h3, xs = [h0, h1, h2, h3] := by
    match xs, hl with
    | [a, b, c, d], _ => exact ⟨a, b, c, d, rfl⟩
  obtain ⟨x, cp, rfl, lcp, bcp⟩ := N3.shape
  obtain ⟨bb, off, y, rfl, c0, -, -⟩ := N3.at (k := 0) (by simp)
  clear c0
  have lcp' : (4 : Int) ≤ cp := by simp at lcp; omega
  cases bo
  · go_wp2_with fail
    refine (l1Byte_any w.heap.size w.heap.size a len cap w3 be3.size cu3).mono ?_
    rintro e w4 ⟨y0, rfl, by0, cu4, gr4⟩
    have be4 := be3.trans (below_of_grown gr4 (Nat.le_refl _) be3.size)
    have N4 := (N3.grown gr4 (by omega) (Nat.le_refl _)).mono (l' := w1.heap.size) (h' := w4.heap.size) (Nat.le_refl _) gr4.size
    have hcs : w.heap.size < w4.heap.size := World.block_lt_of_cell? w4 ⟨w.heap.size, 0, none⟩ cu4.c0
    go_wp2_with fail
    have el := Elems.pick (w := w4) (t := 3) (l := [0, 255, 256, -1, y0]) _ rfl (by
      intro v hv
      simp only [List.mem_cons, List.not_mem_nil, or_false] at hv
      unfold Sm; rcases hv with rfl | rfl | rfl | rfl | rfl <;> omega)
    have cu5 := cu4.keep ((Below.refl w.heap.size w4).alloc be4.size (.cells #[.int .i64 0, .int .i64 255, .int .i64 256, .int .i64 (-1), .int .i64 y0] 3)) (Below.heap_alloc _ _ _ hcs)
    have be5 : Below w.heap.size w (w4.alloc (.cells #[.int .i64 0, .int .i64 255, .int .i64 256, .int .i64 (-1), .int .i64 y0] 3)) := be4.alloc be4.size _
    have N5 := N4.keep (w' := w4.alloc (.cells #[.int .i64 0, .int .i64 255, .int .i64 256, .int .i64 (-1), .int .i64 y0] 3)) ((Below.refl w4.heap.size w4).alloc (Nat.le_refl _) _) (Nat.le_refl _)
    refine (l1PickInt_any w.heap.size w.heap.size a len cap w4.heap.size 0 5 5 Sm _ (by omega) (by omega) (by omega) (by simp) (by simp; omega) cu5 el).mono ?_
    rintro e w6 ⟨m, rfl, hm, cu6, gr6⟩
    have be6 := be5.trans (below_of_grown gr6 (Nat.le_refl _) be5.size)
    have N6 := N5.grown gr6 (by omega) (by simp)
    have z6 := gr6.size
    simp at z6
    have N7 := N6.mono (l' := w.heap.size) (h' := w6.heap.size) (by omega) (by omega)
    clear N3 N4 N5 N6 el
    go_wp2_with fail
    go_ret2
    exact ⟨_, _, _, rfl, N7, hs, by simp, hm, be6⟩
  · have T3 := N3
    obtain ⟨cq, rfl⟩ : ∃ cq, cp = cq + 1 := ⟨cp - 1, by omega⟩
    have T3 := Nums.tail (n := 3) (m := cq) T3
    have hk : ((1 : Int) ≤ ((cq + 1 : Nat) : Int)) := by omega
    clear N3
    go_wp2_with fail
    have hs : ∀ x ∈ [h1, h2, h3], Sm x := fun x hx => hs x (List.mem_cons_of_mem _ hx)
    refine (l1Byte_any w.heap.size w.heap.size a len cap w3 be3.size cu3).mono ?_
    rintro e w4 ⟨y0, rfl, by0, cu4, gr4⟩
    have be4 := be3.trans (below_of_grown gr4 (Nat.le_refl _) be3.size)
    have N4 := (T3.grown gr4 (by omega) (Nat.le_refl _)).mono (l' := w1.heap.size) (h' := w4.heap.size) (Nat.le_refl _) gr4.size
    have hcs : w.heap.size < w4.heap.size := World.block_lt_of_cell? w4 ⟨w.heap.size, 0, none⟩ cu4.c0
    go_wp2_with fail
    have el := Elems.pick (w := w4) (t := 3) (l := [0, 255, 256, -1, y0]) _ rfl (by
      intro v hv
      simp only [List.mem_cons, List.not_mem_nil, or_false] at hv
      unfold Sm; rcases hv with rfl | rfl | rfl | rfl | rfl <;> omega)
    have cu5 := cu4.keep ((Below.refl w.heap.size w4).alloc be4.size (.cells #[.int .i64 0, .int .i64 255, .int .i64 256, .int .i64 (-1), .int .i64 y0] 3)) (Below.heap_alloc _ _ _ hcs)
    have be5 : Below w.heap.size w (w4.alloc (.cells #[.int .i64 0, .int .i64 255, .int .i64 256, .int .i64 (-1), .int .i64 y0] 3)) := be4.alloc be4.size _
    have N5 := N4.keep (w' := w4.alloc (.cells #[.int .i64 0, .int .i64 255, .int .i64 256, .int .i64 (-1), .int .i64 y0] 3)) ((Below.refl w4.heap.size w4).alloc (Nat.le_refl _) _) (Nat.le_refl _)
    refine (l1PickInt_any w.heap.size w.heap.size a len cap w4.heap.size 0 5 5 Sm _ (by omega) (by omega) (by omega) (by simp) (by simp; omega) cu5 el).mono ?_
    rintro e w6 ⟨m, rfl, hm, cu6, gr6⟩
    have be6 := be5.trans (below_of_grown gr6 (Nat.le_refl _) be5.size)
    have N6 := N5.grown gr6 (by omega) (by simp)
    have z6 := gr6.size
    simp at z6
    have N7 := N6.mono (l' := w.heap.size) (h' := w6.heap.size) (by omega) (by omega)
    clear T3 N4 N5 N6 el
    go_wp2_with fail
    go_ret2
    exact ⟨_, _, _, rfl, N7, hs, by simp, hm, be6⟩

/-- A row of small numbers. -/
def DrawnR (w : World) (e : Ending) (w' : World) : Prop :=
  ∃ u xs, e = .returned u ∧ Nums true w.heap.size w'.heap.size w' u xs ∧ (∀ x ∈ xs, Sm x) ∧ xs.length ≤ 9 ∧ Below w.heap.size w w'

set_option maxRecDepth 100000 in
set_option maxHeartbeats 3200000 in
theorem l5drawMsg_any (B c : Nat) (a : Option Addr) (len cap : Nat) (w : World) (hB : B ≤ w.heap.size) (hcur : Cur B w c a len cap) :
    Calls Try.prog 52 #[.pointer (some ⟨c, 0, none⟩), .int .i64 8] w fun e w' => ∃ n, n ≤ 9 ∧ DrawnN B c a len cap n w e w' := by
  obtain ⟨i0, hi, hz0, hz1, hz2⟩ := info_parts Go.Proofs.Ytldeckiflghpcaa.intInfo
  have hcs : c < w.heap.size := World.block_lt_of_cell? w ⟨c, 0, none⟩ hcur.c0
  go_enter Try.func52, Try.ntmps52
  go_wp2_with fail
  refine (l1Below_any B c a len cap _ _ (by omega) hB hcur).mono ?_
  rintro e w0 ⟨n, rfl, ⟨n0, n1⟩, cu0, gr0⟩
  obtain ⟨m, rfl⟩ := Int.eq_ofNat_of_zero_le n0
  have hm : m ≤ 8 := by omega
  clear n0 n1
  go_wp2_with fail
  go_loopw [5, 7] (fun v i wr => ∃ (k : Nat) (xs : List Int), k ≤ m ∧ i = .int .i64 k ∧ xs.length = k ∧ (∀ x ∈ xs, Sm x) ∧ wr.ownsRow w.heap.size 3 1 v k (xs.map (Value.int .i64)) ∧ Cur B wr c a len cap ∧ w.grownBy wr (some c)) (fun _ i _ => m - (intOf i).toNat)
  case atStart => exact ⟨0, [], Nat.zero_le _, rfl, rfl, by simp, World.ownsRow_nil _ _ _ _, cu0, gr0⟩
  case round =>
    obtain ⟨k, xs, hk, rfl, hx, hfit, hown, cu, gr⟩ := hrel
    have hBr : B ≤ wr.heap.size := Nat.le_trans hB gr.size
    have hne := own_ne hown hcs
    clear gr0 cu0
    by_cases hlt : k < m
    · go_wp2_with fail
      refine (l1Byte_any B c a len cap _ hBr cu).mono ?_
      rintro e w1 ⟨x, rfl, bx, cu1, gr1⟩
      have gr1' := grownBy.trans gr gr1
      have hown1 := hown.kept gr1 (.inr hne)
      have hB1 : B ≤ w1.heap.size := Nat.le_trans hBr gr1.size
      have hc1 : c < w1.heap.size := Nat.lt_of_lt_of_le hcs gr1'.size
      clear hown gr cu
      go_wp2_with fail
      have el := Elems.pick (w := w1) (t := 3) (l := [0, 1, 128, 255, x]) _ rfl (by
        intro v hv
        simp only [List.mem_cons, List.not_mem_nil, or_false] at hv
        unfold Sm; rcases hv with rfl | rfl | rfl | rfl | rfl <;> omega)
      have cu2 := cu1.keep ((Below.refl B w1).alloc hB1 (.cells #[.int .i64 0, .int .i64 1, .int .i64 128, .int .i64 255, .int .i64 x] 3)) (Below.heap_alloc _ _ _ hc1)
      refine (l1PickInt_any B c a len cap w1.heap.size 0 5 5 Sm _ (by omega) (by omega) (by omega) (by simp) (by simp; omega) cu2 el).mono ?_
      rintro e w3 ⟨y, rfl, hy, cu3, gr3⟩
      have gr3' := grownBy.trans (grownBy.alloc gr1' (.cells #[.int .i64 0, .int .i64 1, .int .i64 128, .int .i64 255, .int .i64 x] 3)) gr3
      have hown3 := (hown1.alloc (.cells #[.int .i64 0, .int .i64 1, .int .i64 128, .int .i64 255, .int .i64 x] 3)).kept gr3 (.inr hne)
      have hc3 : c < w3.heap.size := Nat.lt_of_lt_of_le hcs gr3'.size
      have hs3 : w.heap.size ≤ w3.heap.size := gr3'.size
      clear el cu1 cu2 gr1 gr1' gr3 hown1
      have cu4 := cu3.keep ((Below.refl B w3).alloc (by omega) (.cells #[.int .i64 y] 3)) (Below.heap_alloc _ _ _ hc3)
      have gr4 := grownBy.alloc gr3' (.cells #[.int .i64 y] 3)
      go_wp2_with (at_builtin; refine wpList_append_own _ rfl _ _ 24 rfl w.heap.size 3 i0 (.int .i64 0) 1 8 Try.underlying24 hi hz0 hz1 hz2 rfl (by decide) _ _ _ rfl (hown3.alloc _) ⟨w3.heap.size, 0, none⟩ 1 1 [.int .i64 y] rfl rfl ?c1 ?c2 ?c3 ?c4 ?c5 ?_)
      case c1 =>
        intro j u hj
        match j, hj with
        | 0, hj => simp at hj; subst hj; simp [Addr.add]
      case c2 => intro u hu; simp at hu; subst hu; rfl
      case c3 => unfold maxLen; omega
      case c4 => omega
      case c5 => simp; omega
      intro v' w5 hown5 hgr5 _
      have cu5 := cu4.own hB hcs (by simp; omega) (hown3.alloc _) hgr5
      have gr5 := grown_own gr4 (Nat.le_refl _) (hown3.alloc _) hgr5
      have fit5 : ∀ z ∈ xs ++ [y], Sm z := by
        intro z hz
        rcases List.mem_append.1 hz with hz | hz
        · exact hfit z hz
        · simp at hz; rw [hz]; exact hy
      have hown5' : w5.ownsRow w.heap.size 3 1 v' (k + 1) ((xs ++ [y]).map (Value.int .i64)) := by
        rw [List.map_append]; exact hown5
      clear hown5 hgr5 hown3 cu4 gr4 cu3 gr3'
      go_wp2_with fail
      go_roundw
      case rel => exact ⟨k + 1, xs ++ [y], by omega, by go_num, by simp [hx], fit5, hown5', cu5, gr5⟩
      case measure => simp [intOf]; omega
    · obtain rfl : k = m := by omega
      go_wp2_with fail
      refine (l1Once_any B c a len cap 12 _ (by omega) hBr cu).mono ?_
      rintro e w1 ⟨bo, rfl, cu1, gr1⟩
      have gr1' := grownBy.trans gr gr1
      have hown1 := hown.kept gr1 (.inr hne)
      have hB1 : B ≤ w1.heap.size := Nat.le_trans hBr gr1.size
      have hc1 : c < w1.heap.size := Nat.lt_of_lt_of_le hcs gr1'.size
      clear hown gr cu gr1
      obtain rfl := hx
      cases bo
      · have N := Nums.own hown1 (fun x hx => (hfit x hx).fits)
        go_wp2_with fail
        go_ret
        exact ⟨xs.length, by omega, _, xs, rfl, N, hfit, rfl, cu1, gr1'⟩
      · go_wp2_with fail
        have el := Elems.pick (w := w1) (t := 3) (l := [-1, 256, 0]) _ rfl (by
          intro v hv
          simp only [List.mem_cons, List.not_mem_nil, or_false] at hv
          unfold Sm; rcases hv with rfl | rfl | rfl <;> omega)
        have cu2 := cu1.keep ((Below.refl B w1).alloc hB1 (.cells #[.int .i64 (-1), .int .i64 256, .int .i64 0] 3)) (Below.heap_alloc _ _ _ hc1)
        refine (l1PickInt_any B c a len cap w1.heap.size 0 3 3 Sm _ (by omega) (by omega) (by omega) (by simp) (by simp; omega) cu2 el).mono ?_
        rintro e w3 ⟨y, rfl, hy, cu3, gr3⟩
        have gr3' := grownBy.trans (grownBy.alloc gr1' (.cells #[.int .i64 (-1), .int .i64 256, .int .i64 0] 3)) gr3
        have hown3 := (hown1.alloc (.cells #[.int .i64 (-1), .int .i64 256, .int .i64 0] 3)).kept gr3 (.inr hne)
        have hc3 : c < w3.heap.size := Nat.lt_of_lt_of_le hcs gr3'.size
        have hs3 : w.heap.size ≤ w3.heap.size := gr3'.size
        clear el cu1 cu2 gr1' gr3 hown1
        have cu4 := cu3.keep ((Below.refl B w3).alloc (by omega) (.cells #[.int .i64 y] 3)) (Below.heap_alloc _ _ _ hc3)
        have gr4 := grownBy.alloc gr3' (.cells #[.int .i64 y] 3)
        go_wp2_with (at_builtin; refine wpList_append_own _ rfl _ _ 24 rfl w.heap.size 3 i0 (.int .i64 0) 1 8 Try.underlying24 hi hz0 hz1 hz2 rfl (by decide) _ _ _ rfl (hown3.alloc _) ⟨w3.heap.size, 0, none⟩ 1 1 [.int .i64 y] rfl rfl ?d1 ?d2 ?d3 ?d4 ?d5 ?_)
        case d1 =>
          intro j u hj
          match j, hj with
          | 0, hj => simp at hj; subst hj; simp [Addr.add]
        case d2 => intro u hu; simp at hu; subst hu; rfl
        case d3 => unfold maxLen; omega
        case d4 => omega
        case d5 => simp; omega
        intro v' w5 hown5 hgr5 _
        have cu5 := cu4.own hB hcs (by simp; omega) (hown3.alloc _) hgr5
        have gr5 := grown_own gr4 (Nat.le_refl _) (hown3.alloc _) hgr5
        have fit5 : ∀ z ∈ xs ++ [y], Sm z := by
          intro z hz
          rcases List.mem_append.1 hz with hz | hz
          · exact hfit z hz
          · simp at hz; rw [hz]; exact hy
        have hown5' : w5.ownsRow w.heap.size 3 1 v' (xs.length + 1) ((xs ++ [y]).map (Value.int .i64)) := by
          rw [List.map_append]; exact hown5
        have N := Nums.own (ts := xs ++ [y]) (by rw [List.length_append]; exact hown5') (fun x hx => (fit5 x hx).fits)
        clear hown5 hown5' hgr5 hown3 cu4 gr4 cu3 gr3'
        go_wp2_with fail
        go_ret
        exact ⟨xs.length + 1, by omega, _, xs ++ [y], rfl, N, fit5, by simp, cu5, gr5⟩

set_option maxRecDepth 100000 in
theorem drawMix_any (a : Option Addr) (len cap : Nat) (w : World) (hr : Row w.heap.size w a len) :
    Calls Try.prog 28 #[.slice a len cap] w (DrawnR w) := by
  go_enter Try.func28, Try.ntmps28
  go_wp2_with fail
  refine (l1New_any a len cap w hr).mono ?_
  rintro e w1 ⟨rfl, cu1, be1, sz1⟩
  go_wp2_with fail
  refine (l5drawMsg_any w.heap.size w.heap.size a len cap w1 be1.size cu1).mono ?_
  rintro e w2 ⟨n, hn, u, xs, rfl, N2, hs, hl, cu2, gr2⟩
  have be2 := be1.trans (below_of_grown gr2 (Nat.le_refl _) be1.size)
  have N3 := N2.mono (l' := w.heap.size) (h' := w2.heap.size) (by omega) (Nat.le_refl _)
  go_wp2_with fail
  go_ret
  exact ⟨_, xs, rfl, N3, hs, by omega, be2⟩
end Go.Proofs.Ytldeckiflghpcaa.L
