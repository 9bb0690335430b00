/- A copy of a slice of bytes; bytes that came in. -/
import Derived.Test.YtcinpoeapbgnhaaByts
namespace Go.Proofs.Ytcinpoeapbgnhaa.L
open Go.RowKit Go.Proofs.Ytcinpoeapbgnhaa.S
set_option linter.unusedVariables false
set_option linter.unusedSimpArgs false

/-- Each is a byte. -/
def bytesIn (xs : List Int) : Prop := ∀ x ∈ xs, 0 ≤ x ∧ x ≤ 255
theorem byteInfo : (Try.prog.info? 5).map (fun i => (i.zero, i.size, i.bytes)) = some (some (.int .u8 0), 1, 1) := by kernel_rfl
def partB (xs : List Int) (k : Nat) : List Value := (xs.take k).map (Value.int .u8) ++ List.replicate (xs.length - k) (.int .u8 0)
theorem partB_zero (xs : List Int) : partB xs 0 = List.replicate xs.length (.int .u8 0) := by simp [partB]
theorem partB_end (xs : List Int) : partB xs xs.length = xs.map (Value.int .u8) := by simp [partB]
theorem partB_at (xs : List Int) (k : Nat) (h : k < xs.length) : (partB xs k)[k]? = some (.int .u8 0) := by
  unfold partB
  have hl : ((xs.take k).map (Value.int .u8)).length = k := by simp; omega
  rw [List.getElem?_append_right (by omega), hl, Nat.sub_self, List.getElem?_replicate, if_pos (by omega)]
theorem partB_set (xs : List Int) (k : Nat) (hk : k < xs.length) : (partB xs k).set k (.int .u8 xs[k]) = partB xs (k + 1) := by
  unfold partB
  rw [List.take_succ_eq_append_getElem hk, List.set_append_right _ _ (by simp; omega)]
  simp only [List.length_map, List.length_take, Nat.min_eq_left (Nat.le_of_lt hk), Nat.sub_self, List.map_append, List.append_assoc]
  congr 1
  rw [show xs.length - k = (xs.length - (k + 1)) + 1 from by omega, List.replicate_succ, List.set_cons_zero]
  rfl

set_option maxRecDepth 100000 in
set_option maxHeartbeats 1600000 in
/-- A copy lies in a new block. -/
theorem toByteS_any (own : Bool) (l h : Nat) (v : Value) (xs : List Int) (w : World) (h1 : Byts own l h w v xs) (hlim : h ≤ w.heap.size) (hlen : xs.length ≤ 536870912) :
    Calls Try.prog 24 #[v] w fun e w' => ∃ u, e = .returned u ∧ Below w.heap.size w w' ∧ Byts true w.heap.size w'.heap.size w' u xs := by
  obtain ⟨a, ca, rfl, la, ba⟩ := h1.shape
  obtain ⟨i0, hi, hz0, hz1, hz2⟩ := info_parts byteInfo
  go_enter Try.func24, Try.ntmps24
  go_wp2_with (refine wpList_make_full _ rfl _ _ 38 rfl w.heap.size 5 i0 (.int .u8 0) 1 Try.underlying38 hi hz0 hz1 .i64 .i64 _ _ xs.length rfl rfl rfl rfl (by rw [hz2]; omega) (by unfold maxLen; omega) (Nat.le_refl _) ?_; intro w1 hown hgr)
  have be1 : Below w.heap.size w w1 := (Below.refl _ _).grown hgr (Nat.le_refl _) (fun k e => by simp at e)
  have hown1 : w1.ownsRow w.heap.size 5 1 (Value.slice (some ⟨w.heap.size, 0, none⟩) xs.length xs.length) xs.length (partB xs 0) := by
    rw [partB_zero, Nat.mul_one] at *
    have e := toList_madeCells_one (Value.int .u8 0) xs.length
    rw [← e]
    exact hown
  clear hown hgr hi hz0 hz1 hz2
  go_loopw [4] (fun i wr => ∃ k : Nat, k ≤ xs.length ∧ i = .int .i64 k ∧ Below w.heap.size w wr ∧ wr.ownsRow w.heap.size 5 1 (Value.slice (some ⟨w.heap.size, 0, none⟩) xs.length xs.length) xs.length (partB xs k)) (fun i _ => xs.length - (intOf i).toNat)
  case atStart => exact ⟨0, Nat.zero_le _, rfl, be1, hown1⟩
  case round =>
    obtain ⟨k, hk, rfl, be, hown⟩ := hrel
    by_cases hlt : k < xs.length
    · obtain ⟨b, off, rfl, l1, l2, c1⟩ := (h1.keep be hlim).at hlt
      have cw : wr.cell? ⟨w.heap.size, k, none⟩ = some (.int .u8 0) := (hown.cellAt k (by omega)).trans (partB_at xs k hlt)
      have fw : wr.frozen? ⟨w.heap.size, k, none⟩ = false := hown.frozenAt k
      have st := (hown.stored k (.int .u8 xs[k])).1
      rw [partB_set xs k hlt] at st
      have be' : Below w.heap.size w (wr.setCell ⟨w.heap.size, k, none⟩ (.int .u8 xs[k])) := be.setCell (Nat.le_refl _) _
      obtain ⟨y, hy⟩ : ∃ y, y = xs[k] := ⟨_, rfl⟩
      rw [← hy] at c1 st be'
      clear hown be be1 hown1 hy
      go_wp2_with fail
      go_roundw
      case rel => exact ⟨k + 1, by omega, by go_num, be', st⟩
      case measure => simp [intOf]; omega
    · obtain rfl : k = xs.length := by omega
      rw [partB_end] at hown
      have fin : Byts true w.heap.size wr.heap.size wr (Value.slice (some ⟨w.heap.size, 0, none⟩) xs.length xs.length) xs := Byts.own hown
      clear hown
      go_wp2_with fail
      go_ret
      exact ⟨_, rfl, be, fin⟩
end Go.Proofs.Ytcinpoeapbgnhaa.L
