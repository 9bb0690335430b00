/- Copies of slices of numbers, and their comparison. -/
import Derived.Test.YtaohghgdjnkgdaaSlices
namespace Go.Proofs.Ytaohghgdjnkgdaa.S
open Go.RowKit
set_option linter.unusedVariables false

theorem take_ne {xs ys : List Int} {k : Nat} {x y : Int} (hx : xs[k]? = some x) (hy : ys[k]? = some y) (h : ¬ x = y) : decide (xs = ys) = false := by
  rw [decide_eq_false_iff_not]
  intro e
  rw [e, hy] at hx
  simp at hx
  exact h hx.symm

set_option maxRecDepth 100000 in
set_option maxHeartbeats 1600000 in
theorem eqIntS_any (lim : Nat) (v u : Value) (xs ys : List Int) (w : World) (h1 : Ints lim w v xs) (h2 : Ints lim w u ys) :
    Calls Try.prog 29 #[v, u] w fun e w' => e = .returned (.bool (decide (xs = ys))) ∧ Below lim w w' := by
  obtain ⟨a, ca, rfl, la, ba⟩ := h1.shape
  obtain ⟨b, cb, rfl, lb, bb⟩ := h2.shape
  by_cases hl : xs.length = ys.length
  · have hne : ((xs.length : Int) != (ys.length : Int)) = false := by simp [hl]
    have HL := Lib.hid hl
    clear hl
    go_enter Try.func29, Try.ntmps29
    go_wp2_with fail
    go_loopw [5] (fun i wr => ∃ k n : Nat, k ≤ xs.length ∧ i = .int .i64 k ∧ wr = w.drewN n ∧ xs.take k = ys.take k) (fun i _ => xs.length - (intOf i).toNat)
    case atStart => exact ⟨0, 0, Nat.zero_le _, rfl, rfl, rfl⟩
    case round =>
      obtain ⟨k, n, hk, rfl, hwr, ht⟩ := hrel
      have HT := Lib.hid ht
      clear ht
      have be : Below lim w wr := by rw [hwr]; exact below_drewN _ _ _
      by_cases hlt : k < xs.length
      · have hlt2 : k < ys.length := by rw [← HL.out]; exact hlt
        obtain ⟨b1, o1, x, rfl, l1, c1, e1, _⟩ := (h1.keep be (Nat.le_refl _)).at hlt
        obtain ⟨b2, o2, y, rfl, l2, c2, e2, _⟩ := (h2.keep be (Nat.le_refl _)).at hlt2
        by_cases hxy : x = y
        · have hb : (x != y) = false := by simp [hxy]
          have HR : Hid (xs.take (k + 1) = ys.take (k + 1)) := Lib.hid (by rw [take_step e1, take_step e2, HT.out, hxy])
          have HW := Lib.hid hwr
          clear hxy hwr e1 e2
          go_wp2_with fail
          go_region
          go_wp2_with fail
          go_roundw
          case rel => exact ⟨k + 1, n + 1, by omega, by go_num, by rw [HW.out]; rfl, HR.out⟩
          case measure => simp [intOf]; omega
        · have hb : (x != y) = true := by simp [hxy]
          have HF := Lib.hid (take_ne e1 e2 hxy)
          clear hwr e1 e2
          go_wp2_with fail
          go_region
          go_wp2_with fail
          go_ret
          exact ⟨ret_bool HF.out.symm, be.drew⟩
      · have HF : Hid (decide (xs = ys) = true) := Lib.hid (by
          rw [decide_eq_true_iff]
          have := HT.out
          have h2 := HL.out
          rwa [take_end hlt, take_end (by omega)] at this)
        clear hwr
        go_wp2_with fail
        go_ret
        exact ⟨ret_bool HF.out.symm, be⟩
  · have hne : ((xs.length : Int) != (ys.length : Int)) = true := by simp; omega
    have HF : Hid (decide (xs = ys) = false) := Lib.hid (by rw [decide_eq_false_iff_not]; intro e; exact hl (by rw [e]))
    clear hl
    go_enter Try.func29, Try.ntmps29
    go_wp2_with fail
    go_ret
    exact ⟨ret_bool HF.out.symm, Below.refl _ _⟩

theorem intInfo : (Try.prog.info? 3).map (fun i => (i.zero, i.size, i.bytes)) = some (some (.int .i64 0), 1, 8) := by kernel_rfl

/-- The copy's cells behind k rounds. -/
def part (xs : List Int) (k : Nat) : List Value := (xs.take k).map (Value.int .i64) ++ List.replicate (xs.length - k) (.int .i64 0)

theorem part_zero (xs : List Int) : part xs 0 = List.replicate xs.length (.int .i64 0) := by simp [part]
theorem part_end (xs : List Int) : part xs xs.length = xs.map (Value.int .i64) := by simp [part]
theorem part_at (xs : List Int) (k : Nat) (h : k < xs.length) : (part xs k)[k]? = some (.int .i64 0) := by
  unfold part
  have hl : ((xs.take k).map (Value.int .i64)).length = k := by simp; omega
  rw [List.getElem?_append_right (by omega), hl, Nat.sub_self, List.getElem?_replicate, if_pos (by omega)]
theorem part_set (xs : List Int) (k : Nat) (x : Int) (h : xs[k]? = some x) : (part xs k).set k (.int .i64 x) = part xs (k + 1) := by
  have hk : k < xs.length := (List.getElem?_eq_some_iff.1 h).1
  unfold part
  rw [take_step h, List.set_append_right _ _ (by simp; omega)]
  simp only [List.length_map, List.length_take, Nat.min_eq_left (Nat.le_of_lt hk), Nat.sub_self, List.map_append, List.append_assoc]
  rw [show xs.length - k = (xs.length - (k + 1)) + 1 from by omega, List.replicate_succ, List.set_cons_zero]
  rfl

set_option maxRecDepth 100000 in
set_option maxHeartbeats 1600000 in
/-- A copy lies in a new block. -/
theorem toIntS_any (lim : Nat) (v : Value) (xs : List Int) (w : World) (h1 : Ints lim w v xs) (hlim : lim ≤ w.heap.size) (hlen : xs.length ≤ 35184372088832) :
    Calls Try.prog 26 #[v] w fun e w' => ∃ u, e = .returned u ∧ Below w.heap.size w w' ∧ Ints w'.heap.size w' u xs := by
  obtain ⟨a, ca, rfl, la, ba⟩ := h1.shape
  obtain ⟨i0, hi, hz0, hz1, hz2⟩ := info_parts intInfo
  have h3 : ∀ x ∈ xs, Fits x := by obtain ⟨_, _, _, _, _, h, _⟩ := h1; exact h
  have H3 := Lib.hid h3
  clear h3
  go_enter Try.func26, Try.ntmps26
  go_wp2_with (refine wpList_make_full _ rfl _ _ 46 rfl w.heap.size 3 i0 (.int .i64 0) 1 Try.underlying46 hi hz0 hz1 .i64 .i64 _ _ xs.length rfl rfl rfl rfl (by rw [hz2]; omega) (by unfold maxLen; omega) (Nat.le_refl _) ?_; intro w1 hown hgr)
  have be1 : Below w.heap.size w w1 := (Below.refl _ _).grown hgr (Nat.le_refl _) (fun k e => by simp at e)
  have hown1 : w1.ownsRow w.heap.size 3 1 (Value.slice (some ⟨w.heap.size, 0, none⟩) xs.length xs.length) xs.length (part xs 0) := by
    rw [part_zero, Nat.mul_one] at *
    have e := toList_madeCells_one (Value.int .i64 0) xs.length
    rw [← e]
    exact hown
  clear hown hgr hi hz0 hz1 hz2
  go_loopw [4] (fun i wr => ∃ k : Nat, k ≤ xs.length ∧ i = .int .i64 k ∧ Below w.heap.size w wr ∧ wr.ownsRow w.heap.size 3 1 (Value.slice (some ⟨w.heap.size, 0, none⟩) xs.length xs.length) xs.length (part xs k)) (fun i _ => xs.length - (intOf i).toNat)
  case atStart => exact ⟨0, Nat.zero_le _, rfl, be1, hown1⟩
  case round =>
    obtain ⟨k, hk, rfl, be, hown⟩ := hrel
    by_cases hlt : k < xs.length
    · obtain ⟨b, off, x, rfl, l1, c1, e1, _⟩ := (h1.keep be hlim).at hlt
      have cw : wr.cell? ⟨w.heap.size, k, none⟩ = some (.int .i64 0) := (hown.cellAt k (by omega)).trans (part_at xs k hlt)
      have fw : wr.frozen? ⟨w.heap.size, k, none⟩ = false := hown.frozenAt k
      have st := (hown.stored k (.int .i64 x)).1
      rw [part_set xs k x e1] at st
      have be' : Below w.heap.size w (wr.setCell ⟨w.heap.size, k, none⟩ (.int .i64 x)) := be.setCell (Nat.le_refl _) _
      clear hown e1 be be1 hown1
      go_wp2_with fail
      go_roundw
      case rel => exact ⟨k + 1, by omega, by go_num, be', st⟩
      case measure => simp [intOf]; omega
    · obtain rfl : k = xs.length := by omega
      rw [part_end] at hown
      have fin : Ints wr.heap.size wr (Value.slice (some ⟨w.heap.size, 0, none⟩) xs.length xs.length) xs := by
        refine ⟨_, _, rfl, Nat.le_refl _, by omega, H3.out, ?_⟩
        by_cases h0 : xs = []
        · exact .inl h0
        · refine .inr ⟨w.heap.size, 0, rfl, (World.ownsRow.lt hown _ rfl).2, fun j x hx => ?_⟩
          have hj : j < xs.length := (List.getElem?_eq_some_iff.1 hx).1
          rw [Nat.zero_add, hown.cellAt j (by omega), List.getElem?_map, hx]
          rfl
      clear hown
      go_wp2_with fail
      go_ret
      exact ⟨_, rfl, be, fin⟩
end Go.Proofs.Ytaohghgdjnkgdaa.S
