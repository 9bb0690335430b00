/- Characters and their indices: the program's and the model's. -/
import Derived.Test.YtbmpdippiafjiaaB1
import Derived.Laws.RangeString
namespace Go.Proofs.Ytbmpdippiafjiaa.L
open Go.RowKit Go.Proofs.Ytbmpdippiafjiaa.S
set_option linter.unusedVariables false
set_option linter.unusedSimpArgs false

def cs : ByteArray := ⟨#[65, 66, 67, 68, 69, 70, 71, 72, 73, 74, 75, 76, 77, 78, 79, 80, 81, 82, 83, 84, 85, 86, 87, 88, 89, 90, 97, 98, 99, 100, 101, 102, 103, 104, 105, 106, 107, 108, 109, 110, 111, 112, 113, 114, 115, 116, 117, 118, 119, 120, 121, 122, 48, 49, 50, 51, 52, 53, 54, 55, 56, 57, 43, 47]⟩
def chN (n : Nat) : Nat := (cs.data.toList.getD n 0).toNat
theorem cs_size : cs.size = 64 := rfl
theorem cs_at (k : Nat) (h : k < cs.size) : (cs[k]'h).toNat = chN k := by
  unfold chN
  have h' : k < cs.data.toList.length := by simpa using h
  rw [List.getD, List.getElem?_eq_getElem h']
  simp
  rfl
theorem ch_facts : ((List.range 64).all fun n => decide (43 ≤ chN n ∧ chN n ≤ 122)) = true := by kernel_rfl
theorem ch_alone : ((List.range 64).all fun n => (List.range 64).all fun m => decide (chN n = chN m → n = m)) = true := by kernel_rfl
theorem ch_in {k : Nat} (h : k < 64) : 43 ≤ chN k ∧ chN k ≤ 122 := by
  have := ch_facts
  simp only [List.all_eq_true, List.mem_range, decide_eq_true_eq] at this
  exact this k h
theorem ch_inj {k m : Nat} (hk : k < 64) (hm : m < 64) (h : chN k = chN m) : k = m := by
  have := ch_alone
  simp only [List.all_eq_true, List.mem_range, decide_eq_true_eq] at this
  exact this k hk m hm h
/-- The index of a character; -1: it has none. -/
def six (x : Int) : Int := match (List.range 64).find? (fun n => decide ((chN n : Int) = x)) with
  | some n => (n : Int)
  | none => -1
theorem six_cases (x : Int) : (∃ k : Nat, k < 64 ∧ (chN k : Int) = x ∧ six x = (k : Int)) ∨ ((∀ k : Nat, k < 64 → (chN k : Int) ≠ x) ∧ six x = -1) := by
  unfold six
  cases h : (List.range 64).find? (fun n => decide ((chN n : Int) = x)) with
  | some n =>
    have h1 := List.find?_some h
    have h2 := List.mem_of_find?_eq_some h
    simp only [decide_eq_true_eq] at h1
    exact .inl ⟨n, List.mem_range.1 h2, h1, rfl⟩
  | none =>
    refine .inr ⟨fun k hk he => ?_, rfl⟩
    have := List.find?_eq_none.1 h k (List.mem_range.2 hk)
    simp [he] at this
theorem six_at {x : Int} {k : Nat} (hk : k < 64) (h : (chN k : Int) = x) : six x = (k : Int) := by
  rcases six_cases x with ⟨m, hm, e, s⟩ | ⟨n, _⟩
  · rw [s, ch_inj hm hk (by omega)]
  · exact absurd h (n k hk)
theorem six_no {x : Int} (h : ∀ j : Nat, j < 64 → (chN j : Int) ≠ x) : six x = -1 := by
  rcases six_cases x with ⟨m, hm, e, s⟩ | ⟨_, s⟩
  · exact absurd e (h m hm)
  · exact s
theorem six_in (x : Int) : -1 ≤ six x ∧ six x ≤ 63 := by
  rcases six_cases x with ⟨m, hm, e, s⟩ | ⟨_, s⟩ <;> omega
def chr (n : Int) : Int := if n < 0 ∨ 63 < n then -1 else (chN n.toNat : Int)
theorem chr_out {n : Int} (h : n < 0 ∨ 63 < n) : chr n = -1 := if_pos h
theorem chr_in {n : Int} (h : ¬ (n < 0 ∨ 63 < n)) : chr n = (chN n.toNat : Int) := if_neg h

theorem idx_cs {P : Program} (t : TypeId) (ht : P.underlying t = some .string) (k : Nat) (hk : k < 64) (w : World) :
    (Instr.index t (.string cs) (.int .i64 (k : Int))).run P w = .ok (.int .u8 (chN k : Int)) w := by
  rw [run_index_string w t cs .i64 _ ht, dif_pos ⟨by omega, by rw [cs_size]; omega⟩]
  have e : ((k : Int)).toNat = k := by omega
  simp only [e]
  rw [cs_at k (by rw [cs_size]; exact hk)]
theorem next_cs {P : Program} (ty : TypeId) (k : Nat) (hk : k < 64) (w : World) :
    (Instr.next (.pointer (some ⟨w.heap.size, 0, none⟩)) true ty).run P (w.iter cs k) = .ok (.tuple #[.bool true, .int .i64 k, .int .i32 (chN k : Int)]) (w.iter cs (k + 1)) := by
  have h : k < cs.size := by rw [cs_size]; exact hk
  have ha : (cs[k]'h).toNat < 128 := by rw [cs_at]; have := ch_in hk; omega
  rw [run_next_ascii w cs k ty h ha, cs_at]
theorem next_end {P : Program} (ty : TypeId) (w : World) :
    (Instr.next (.pointer (some ⟨w.heap.size, 0, none⟩)) true ty).run P (w.iter cs 64) = .ok (.tuple #[.bool false]) (w.iter cs 64) := run_next_end w cs 64 ty (by rw [cs_size]; omega)

end Go.Proofs.Ytbmpdippiafjiaa.L
