/- A copy of a slice of numbers owns its memory. -/
import Derived.Test.YthipgpbapdambaaGreatB20
namespace Go.Proofs.YthipgpbapdambaaGreat.L
open Go.RowKit Go.Proofs.YthipgpbapdambaaGreat.S
set_option linter.unusedVariables false
set_option linter.unusedSimpArgs false

set_option maxRecDepth 100000 in
set_option maxHeartbeats 1600000 in
/-- A copy lies in a new block. -/
theorem toIntS_own (lim : Nat) (v : Value) (xs : List Int) (w : World) (h1 : Ints lim w v xs) (hlim : lim ≤ w.heap.size) (hlen : xs.length ≤ 35184372088832) :
  Calls Tryz.prog 10 #[v] w fun e w' => ∃ u, e = .returned u ∧ Below w.heap.size w w' ∧ Nums true w.heap.size w'.heap.size w' u xs := by
 obtain ⟨a, ca, rfl, la, ba⟩ := h1.shape
 obtain ⟨i0, hi, hz0, hz1, hz2⟩ := info_parts intInfo
 have h3 : ∀ x ∈ xs, Fits x := by obtain ⟨_, _, _, _, _, h, _⟩ := h1; exact h
 have H3 := Lib.hid h3
 clear h3
 go_enter Tryz.func10, Tryz.ntmps10
 go_wp2_with (refine wpList_make_full _ rfl _ _ 27 rfl w.heap.size 3 i0 (.int .i64 0) 1 Tryz.underlying27 hi hz0 hz1 .i64 .i64 _ _ xs.length rfl rfl rfl rfl (by rw [hz2]; omega) (by unfold maxLen; omega) (Nat.le_refl _) ?_; intro w1 hown hgr)
 have be1 : Below w.heap.size w w1 := (Below.refl _ _).grown hgr (Nat.le_refl _) (fun k e => by simp at e)
 have hown1 : w1.ownsRow w.heap.size 3 1 (Value.slice (some ⟨w.heap.size, 0, none⟩) xs.length xs.length) xs.length (S.part xs 0) := by
  rw [S.part_zero, Nat.mul_one] at *
  have e := toList_madeCells_one (Value.int .i64 0) xs.length
  rw [← e]
  exact hown
 clear hown hgr hi hz0 hz1 hz2
 go_loopw [4] (fun i wr => ∃ k : Nat, k ≤ xs.length ∧ i = .int .i64 k ∧ Below w.heap.size w wr ∧ wr.ownsRow w.heap.size 3 1 (Value.slice (some ⟨w.heap.size, 0, none⟩) xs.length xs.length) xs.length (S.part xs k)) (fun i _ => xs.length - (intOf i).toNat)
 case atStart => exact ⟨0, Nat.zero_le _, rfl, be1, hown1⟩
 case round =>
  obtain ⟨k, hk, rfl, be, hown⟩ := hrel
  by_cases hlt : k < xs.length
  ·obtain ⟨b, off, x, rfl, l1, c1, e1, _⟩ := (h1.keep be hlim).at hlt
   have cw : wr.cell? ⟨w.heap.size, k, none⟩ = some (.int .i64 0) := (hown.cellAt k (by omega)).trans (S.part_at xs k hlt)
   have fw : wr.frozen? ⟨w.heap.size, k, none⟩ = false := hown.frozenAt k
   have st := (hown.stored k (.int .i64 x)).1
   rw [S.part_set xs k x e1] at st
   have be' : Below w.heap.size w (wr.setCell ⟨w.heap.size, k, none⟩ (.int .i64 x)) := be.setCell (Nat.le_refl _) _
   clear hown e1 be be1 hown1
   go_wp2_with fail
   go_roundw
   case rel => exact ⟨k + 1, by omega, by go_num, be', st⟩
   case measure => simp [intOf]; omega
  ·obtain rfl : k = xs.length := by omega
   rw [S.part_end] at hown
   have fin : Nums true w.heap.size wr.heap.size wr (Value.slice (some ⟨w.heap.size, 0, none⟩) xs.length xs.length) xs := Nums.own hown H3.out
   clear hown
   go_wp2_with fail
   go_ret
   exact ⟨_, rfl, be, fin⟩
end Go.Proofs.YthipgpbapdambaaGreat.L
