/- Inverses: what (*inverses).of and FInv return; what is made for it is new memory. -/
import Derived.Test.YtoeklalhbkdjnaaOnce
namespace Go.Proofs.Ytoeklalhbkdjnaa
open Go.RowKit
def cellIs (o : Option Value) (v : Value) : Bool := match o, v with
  | some (.int k x), .int k' y => k == k' && x == y
  | _, _ => false
theorem cellIs_spec {o : Option Value} {k : IntKind} {x : Int} (h : cellIs o (.int k x) = true) : o = some (.int k x) := by
  unfold cellIs at h
  split at h
  · rename_i h2; simp at h h2; simp [h, h2]
  · cases h
def zc : Array Value := (List.replicate 128 [Value.int .u32 0, Value.int .i32 0, Value.int .u32 0, Value.int .i64 0]).flatten.toArray
theorem zc_ne : ¬ zc = #[] := by
  intro h
  have h1 : zc.size = 512 := by kernel_rfl
  rw [h] at h1; simp at h1
theorem kept_zero : (List.range 128).all (fun k => cellIs (zc)[k * 4]? (.int .u32 0) && cellIs (zc)[k * 4 + 1]? (.int .i32 0) && cellIs (zc)[k * 4 + 3]? (.int .i64 0)) = true := by kernel_rfl
theorem kept_cells (k : Nat) (hk : k < 128) : (zc)[k * 4]? = some (.int .u32 0) ∧ (zc)[k * 4 + 1]? = some (.int .i32 0) ∧ (zc)[k * 4 + 3]? = some (.int .i64 0) := by
  have h := List.all_eq_true.1 kept_zero k (List.mem_range.2 hk)
  simp only [Bool.and_eq_true] at h
  exact ⟨cellIs_spec h.1.1, cellIs_spec h.1.2, cellIs_spec h.2⟩

end Go.Proofs.Ytoeklalhbkdjnaa
