/- The draws of layer 1: numbers that fit their kind; nothing that was there is written. -/
import Derived.Test.YtghjcedhoeoiiaaDraw
namespace Go.Proofs.Ytghjcedhoeoiiaa
open Go.RowKit
set_option linter.unusedVariables false

/-- It fits an int. -/
def Fits (x : Int) : Prop := -9223372036854775808 ≤ x ∧ x ≤ 9223372036854775807
theorem fits_and30 (n : Int) : Fits (bits .and .i64 n 1073741823) := by have := and30 n; unfold Fits; omega

theorem Elems.new {w : World} {t : TypeId} {l : List Int} {P : Int → Prop} (cs : Array Value) (hcs : cs = (l.map (Value.int .i64)).toArray) (h : ∀ x ∈ l, P x) : Elems (w.alloc (.cells cs t)) w.heap.size 0 l.length P := fun j hj => by
  refine ⟨l[j], h _ (List.getElem_mem _), ?_⟩
  rw [World.cell?_alloc_at _ _ _ _ rfl, hcs, Nat.zero_add]
  simp [hj]

set_option maxRecDepth 100000 in
set_option maxHeartbeats 1600000 in
theorem l1draw_any (B c : Nat) (a : Option Addr) (len cap : Nat) (w : World) (hB : B ≤ w.heap.size) (hcur : Cur B w c a len cap) :
    Calls Try.prog 26 #[.pointer (some ⟨c, 0, none⟩)] w (Step B c a len cap Fits w) := by
  go_enter Try.func26, Try.ntmps26
  go_wp2_with fail
  refine (l1Below_any B c a len cap _ _ (by omega) hB hcur).mono ?_
  rintro e w1 ⟨x, rfl, ⟨x0, x1⟩, cu1, gr1⟩
  have hB1 := Nat.le_trans hB gr1.size
  go_wp2_with fail
  refine (l1Below_any B c a len cap _ _ (by omega) hB1 cu1).mono ?_
  rintro e w2 ⟨y, rfl, ⟨y0, y1⟩, cu2, gr2⟩
  have hB2 := Nat.le_trans hB1 gr2.size
  go_wp2_with fail
  have hcs : c < w2.heap.size := World.block_lt_of_cell? w2 ⟨c, 0, none⟩ cu2.c0
  have gr3 := grownBy.alloc (grownBy.trans gr1 gr2) (.cells #[.int .i64 0, .int .i64 1, .int .i64 2, .int .i64 7, .int .i64 255, .int .i64 2147483646, .int .i64 2147483647, .int .i64 2147483648, .int .i64 (-1), .int .i64 9223372036854775807, .int .i64 (-9223372036854775808), .int .i64 x, .int .i64 (2147483646 - y)] 3)
  have cu3 := cu2.keep ((Below.refl B w2).alloc hB2 (.cells #[.int .i64 0, .int .i64 1, .int .i64 2, .int .i64 7, .int .i64 255, .int .i64 2147483646, .int .i64 2147483647, .int .i64 2147483648, .int .i64 (-1), .int .i64 9223372036854775807, .int .i64 (-9223372036854775808), .int .i64 x, .int .i64 (2147483646 - y)] 3)) (Below.heap_alloc _ _ _ hcs)
  have el := Elems.new (w := w2) (t := 3) (l := [0, 1, 2, 7, 255, 2147483646, 2147483647, 2147483648, -1, 9223372036854775807, -9223372036854775808, x, 2147483646 - y]) (P := Fits) _ rfl (by
    intro v hv
    simp only [List.mem_cons, List.not_mem_nil, or_false] at hv
    unfold Fits
    omega)
  refine (l1PickInt_any B c a len cap w2.heap.size 0 13 13 Fits _ (by omega) (by omega) (by omega) (by simp) (by simp; omega) cu3 el).mono ?_
  rintro e w4 ⟨v, rfl, hv, cu4, gr4⟩
  go_wp2_with fail
  go_ret
  exact ⟨_, rfl, hv, cu4, grownBy.trans gr3 gr4⟩

set_option maxRecDepth 100000 in
set_option maxHeartbeats 1600000 in
/-- A new cursor over the bytes of a slice. -/
theorem l1New_any (a : Option Addr) (len cap : Nat) (w : World) (hr : Row w.heap.size w a len) :
    Calls Try.prog 25 #[.slice a len cap] w fun e w' => e = .returned (.pointer (some ⟨w.heap.size, 0, none⟩)) ∧ Cur w.heap.size w' w.heap.size a len cap ∧ Below w.heap.size w w' ∧ w'.heap.size = w.heap.size + 1 := by
  have fin : ∀ h : Int, Fits h → Cur w.heap.size (w.alloc (.cells #[.slice a len cap, .int .i64 0, .int .i64 h] 91)) w.heap.size a len cap := by
    intro h hh
    refine ⟨Nat.le_refl _, hr.keep ((Below.refl _ _).alloc (Nat.le_refl _) _), ?_, ⟨0, Nat.zero_le _, ?_⟩, ⟨h, hh.1, hh.2, ?_⟩, fun j => World.frozen?_alloc_at _ _ _ _ rfl⟩
    · rw [World.cell?_alloc_at _ _ _ _ rfl]; rfl
    · rw [World.cell?_alloc_at _ _ _ _ rfl]; rfl
    · rw [World.cell?_alloc_at _ _ _ _ rfl]; rfl
  have FIN := Lib.hid fin
  obtain ⟨hl, hr⟩ := hr
  unfold maxLen at hl
  have hcell : ∀ k, k < len → ∃ b off, ∃ n : Int, a = some ⟨b, off, none⟩ ∧ 0 ≤ n ∧ n ≤ 255 ∧ w.cell? ⟨b, off + k, none⟩ = some (.int .u8 n) := by
    intro k hk
    rcases hr with h | ⟨b, off, h, _, hc⟩
    · omega
    · obtain ⟨n, n0, n1, hn⟩ := hc k hk
      exact ⟨b, off, n, h, n0, n1, hn⟩
  have HC := Lib.hid hcell
  have w0 := w64 (54343 + (len : Int))
  clear fin hr hcell
  go_enter Try.func25, Try.ntmps25
  go_wp2_with fail
  go_loop [3, 4] (fun x y => ∃ (h : Int) (i : Nat), Fits h ∧ i ≤ len ∧ x = .int .i64 h ∧ y = .int .i64 i) (fun _ y => len - (intOf y).toNat)
  case atStart => exact ⟨_, 0, ⟨by omega, by omega⟩, by omega, rfl, rfl⟩
  case round =>
    obtain ⟨h, i, hf, hi, rfl, rfl⟩ := hrel
    by_cases hlt : i < len ∧ i < 4000
    · obtain ⟨l1, l2⟩ := hlt
      obtain ⟨b, off, n, ha, n0, n1, hn⟩ := HC.out i l1
      obtain rfl := ha
      go_wp2_with fail
      go_round
      case rel => exact ⟨_, i + 1, fits_and30 _, by omega, rfl, by go_num⟩
      case measure => simp [intOf]; omega
    · by_cases l1 : i < len
      · have l2 : ¬ i < 4000 := fun h => hlt ⟨l1, h⟩
        clear hlt
        go_wp2_with fail
        go_ret
        exact ⟨rfl, FIN.out _ hf, (Below.refl _ _).alloc (Nat.le_refl _) _, by simp⟩
      · clear hlt
        go_wp2_with fail
        go_ret
        exact ⟨rfl, FIN.out _ hf, (Below.refl _ _).alloc (Nat.le_refl _) _, by simp⟩

/-- Two numbers; nothing that was there is written. -/
def Pair (w : World) (e : Ending) (w' : World) : Prop := ∃ x y : Int, e = .returned (.tuple #[.int .i64 x, .int .i64 y]) ∧ Fits x ∧ Fits y ∧ Below w.heap.size w w'

set_option maxHeartbeats 800000 in
theorem drawFAdd_any (a : Option Addr) (len cap : Nat) (w : World) (hr : Row w.heap.size w a len) :
    Calls Try.prog 8 #[.slice a len cap] w (Pair w) := by
  go_enter Try.func8, Try.ntmps8
  go_wp2_with fail
  refine (l1New_any a len cap w hr).mono ?_
  rintro e w1 ⟨rfl, cu1, be1, sz1⟩
  go_wp2_with fail
  refine (l1draw_any w.heap.size w.heap.size a len cap w1 be1.size cu1).mono ?_
  rintro e w2 ⟨x, rfl, hx, cu2, gr2⟩
  have be2 := be1.trans (below_of_grown gr2 (Nat.le_refl _) be1.size)
  go_wp2_with fail
  refine (l1draw_any w.heap.size w.heap.size a len cap w2 be2.size cu2).mono ?_
  rintro e w3 ⟨y, rfl, hy, cu3, gr3⟩
  have be3 := be2.trans (below_of_grown gr3 (Nat.le_refl _) be2.size)
  go_wp2_with fail
  go_ret2
  exact ⟨_, _, rfl, hx, hy, be3⟩

end Go.Proofs.Ytghjcedhoeoiiaa
