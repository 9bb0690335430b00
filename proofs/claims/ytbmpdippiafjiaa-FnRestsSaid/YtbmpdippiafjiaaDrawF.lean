/- The draws of layer 1: numbers that fit their kind; nothing that was there is written. -/
import Derived.Test.YtbmpdippiafjiaaDraw
namespace Go.Proofs.Ytbmpdippiafjiaa
open Go.RowKit
set_option linter.unusedVariables false

/-- It fits an int. -/
def Fits (x : Int) : Prop := -9223372036854775808 ≤ x ∧ x ≤ 9223372036854775807
theorem fits_and30 (n : Int) : Fits (bits .and .i64 n 1073741823) := by have := and30 n; unfold Fits; omega

theorem Elems.new {w : World} {t : TypeId} {l : List Int} {P : Int → Prop} (cs : Array Value) (hcs : cs = (l.map (Value.int .i64)).toArray) (h : ∀ x ∈ l, P x) : Elems (w.alloc (.cells cs t)) w.heap.size 0 l.length P := fun j hj => by
  refine ⟨l[j], h _ (List.getElem_mem _), ?_⟩
  rw [World.cell?_alloc_at _ _ _ _ rfl, hcs, Nat.zero_add]
  simp [hj]

set_option maxRecDepth 100000 in
set_option maxHeartbeats 1600000 in
/-- A new cursor over the bytes of a slice. -/
theorem l1New_any (a : Option Addr) (len cap : Nat) (w : World) (hr : Row w.heap.size w a len) :
    Calls Try.prog 20 #[.slice a len cap] w fun e w' => e = .returned (.pointer (some ⟨w.heap.size, 0, none⟩)) ∧ Cur w.heap.size w' w.heap.size a len cap ∧ Below w.heap.size w w' ∧ w'.heap.size = w.heap.size + 1 := by
  have fin : ∀ h : Int, Fits h → Cur w.heap.size (w.alloc (.cells #[.slice a len cap, .int .i64 0, .int .i64 h] 44)) w.heap.size a len cap := by
    intro h hh
    refine ⟨Nat.le_refl _, hr.keep ((Below.refl _ _).alloc (Nat.le_refl _) _), ?_, ⟨0, Nat.zero_le _, ?_⟩, ⟨h, hh.1, hh.2, ?_⟩, fun j => World.frozen?_alloc_at _ _ _ _ rfl⟩
    · rw [World.cell?_alloc_at _ _ _ _ rfl]; rfl
    · rw [World.cell?_alloc_at _ _ _ _ rfl]; rfl
    · rw [World.cell?_alloc_at _ _ _ _ rfl]; rfl
  have FIN := Lib.hid fin
  obtain ⟨hl, hr⟩ := hr
  unfold maxLen at hl
  have hcell : ∀ k, k < len → ∃ b off, ∃ n : Int, a = some ⟨b, off, none⟩ ∧ 0 ≤ n ∧ n ≤ 255 ∧ w.cell? ⟨b, off + k, none⟩ = some (.int .u8 n) := by
    intro k hk
    rcases hr with h | ⟨b, off, h, _, hc⟩
    · omega
    · obtain ⟨n, n0, n1, hn⟩ := hc k hk
      exact ⟨b, off, n, h, n0, n1, hn⟩
  have HC := Lib.hid hcell
  have w0 := w64 (54343 + (len : Int))
  clear fin hr hcell
  go_enter Try.func20, Try.ntmps20
  go_wp2_with fail
  go_loop [3, 4] (fun x y => ∃ (h : Int) (i : Nat), Fits h ∧ i ≤ len ∧ x = .int .i64 h ∧ y = .int .i64 i) (fun _ y => len - (intOf y).toNat)
  case atStart => exact ⟨_, 0, ⟨by omega, by omega⟩, by omega, rfl, rfl⟩
  case round =>
    obtain ⟨h, i, hf, hi, rfl, rfl⟩ := hrel
    by_cases hlt : i < len ∧ i < 4000
    · obtain ⟨l1, l2⟩ := hlt
      obtain ⟨b, off, n, ha, n0, n1, hn⟩ := HC.out i l1
      obtain rfl := ha
      go_wp2_with fail
      go_round
      case rel => exact ⟨_, i + 1, fits_and30 _, by omega, rfl, by go_num⟩
      case measure => simp [intOf]; omega
    · by_cases l1 : i < len
      · have l2 : ¬ i < 4000 := fun h => hlt ⟨l1, h⟩
        clear hlt
        go_wp2_with fail
        go_ret
        exact ⟨rfl, FIN.out _ hf, (Below.refl _ _).alloc (Nat.le_refl _) _, by simp⟩
      · clear hlt
        go_wp2_with fail
        go_ret
        exact ⟨rfl, FIN.out _ hf, (Below.refl _ _).alloc (Nat.le_refl _) _, by simp⟩

/-- Two numbers; nothing that was there is written. -/
def Pair (w : World) (e : Ending) (w' : World) : Prop := ∃ x y : Int, e = .returned (.tuple #[.int .i64 x, .int .i64 y]) ∧ Fits x ∧ Fits y ∧ Below w.heap.size w w'

end Go.Proofs.Ytbmpdippiafjiaa
