/- Inverses: what (*inverses).of and FInv return; what is made for it is new memory. -/
import Derived.Test.YthipgpbapdambaaGreatOnce
namespace Go.Proofs.YthipgpbapdambaaGreat
open Go.RowKit
set_option linter.unusedVariables false

set_option maxRecDepth 100000 in
set_option maxHeartbeats 1600000 in
/-- A small number, its Once not yet done: the inverse is computed, kept and returned. -/
theorem of_small (b k : Nat) (hk : k < 128) (x3 : Value) (w : World) (hb : b < w.heap.size)
  (h0 : w.cell? ⟨b, k * 4, none⟩ = some (.int .u32 0)) (h1 : w.cell? ⟨b, k * 4 + 1, none⟩ = some (.int .i32 0)) (h3 : w.cell? ⟨b, k * 4 + 3, none⟩ = some x3)
  (f0 : w.frozen? ⟨b, k * 4, none⟩ = false) (f1 : w.frozen? ⟨b, k * 4 + 1, none⟩ = false) (f3 : w.frozen? ⟨b, k * 4 + 3, none⟩ = false) :
  Calls Tryz.prog 151 #[.pointer (some ⟨b, 0, none⟩), .int .i64 k] w fun e w' => e = .returned (.int .i64 (M.pw k 2147483645)) ∧ Below b w w' := by
 have hmf : ∀ (fn : Fn) (first cap : Array Value) (w : World), (Instr.makeFunc fn first cap).run Tryz.prog w = .ok (.func fn first cap) w := fun _ _ _ _ => rfl
 have nb : ∀ (j d : Nat), (⟨b, j, none⟩ : Addr) ≠ ⟨w.heap.size + d, 0, none⟩ := fun j d h => by
  have := congrArg Addr.block h
  simp at this
  omega
 obtain ⟨W, hW⟩ : ∃ W, W = ((w.alloc (Obj.cells #[Value.int IntKind.i64 k] 85)).alloc (Obj.cells #[Value.pointer (some ⟨b, k * 4, none⟩)] 211)).drew := ⟨_, rfl⟩
 have bel : Below b w W := by rw [hW]; exact (((Below.refl _ _).alloc (by omega) _).alloc (by simp; omega) _).drew
 have c0 : W.cell? ⟨b, k * 4, none⟩ = some (.int .u32 0) := by rw [hW, World.cell?_drew, World.cell?_alloc_past _ _ _ (by simp; omega), World.cell?_alloc_past _ _ _ hb]; exact h0
 have c1 : W.cell? ⟨b, k * 4 + 1, none⟩ = some (.int .i32 0) := by rw [hW, World.cell?_drew, World.cell?_alloc_past _ _ _ (by simp; omega), World.cell?_alloc_past _ _ _ hb]; exact h1
 have c3 : W.cell? ⟨b, k * 4 + 3, none⟩ = some x3 := by rw [hW, World.cell?_drew, World.cell?_alloc_past _ _ _ (by simp; omega), World.cell?_alloc_past _ _ _ hb]; exact h3
 have z0 : W.frozen? ⟨b, k * 4, none⟩ = false := by rw [hW, World.frozen?_drew, World.frozen?_alloc_past _ _ _ (by simp; omega), World.frozen?_alloc_past _ _ _ hb]; exact f0
 have z1 : W.frozen? ⟨b, k * 4 + 1, none⟩ = false := by rw [hW, World.frozen?_drew, World.frozen?_alloc_past _ _ _ (by simp; omega), World.frozen?_alloc_past _ _ _ hb]; exact f1
 have z3 : W.frozen? ⟨b, k * 4 + 3, none⟩ = false := by rw [hW, World.frozen?_drew, World.frozen?_alloc_past _ _ _ (by simp; omega), World.frozen?_alloc_past _ _ _ hb]; exact f3
 have pa : W.cell? ⟨w.heap.size, 0, none⟩ = some (.int .i64 k) := by rw [hW, World.cell?_drew, World.cell?_alloc_past _ _ _ (by simp)]; simp
 have pk : W.cell? ⟨w.heap.size + 1, 0, none⟩ = some (.pointer (some ⟨b, k * 4, none⟩)) := by rw [hW, World.cell?_drew]; simp
 have hsz : b < W.heap.size := Nat.lt_of_lt_of_le hb bel.size
 have HW := Lib.hid hW
 clear hW
 go_enter Tryz.func151, Tryz.ntmps151
 go_wp2_with fail
 go_region
 all_goals go_wp2_with fail
 rw [← HW.out]
 refine (do_first b (k * 4) k (by omega) (by omega) ⟨w.heap.size, 0, none⟩ ⟨w.heap.size + 1, 0, none⟩ (by simp; omega) (by simp; omega) x3 W pa pk c0 c1 c3 z0 z1 z3).mono ?_
 rintro e w' ⟨rfl, hw'⟩
 have q3 : w'.cell? ⟨b, k * 4 + 3, none⟩ = some (.int .i64 (M.pw k 2147483645)) := by
  rw [hw', World.cell?_drew, World.cell?_drew]
  refine (World.cell?_setCell_other _ ⟨b, k * 4 + 1, none⟩ ⟨b, k * 4 + 3, none⟩ _ (by simp)).trans ?_
  refine (World.cell?_setCell_other _ ⟨b, k * 4, none⟩ ⟨b, k * 4 + 3, none⟩ _ (by simp)).trans ?_
  exact World.cell?_setCell_same _ _ _ ((World.cell?_setCell_other _ ⟨b, k * 4 + 1, none⟩ ⟨b, k * 4 + 3, none⟩ _ (by simp)).trans c3)
 have qk : w'.cell? ⟨w.heap.size + 1, 0, none⟩ = some (.pointer (some ⟨b, k * 4, none⟩)) := by
  rw [hw', World.cell?_drew, World.cell?_drew, World.cell?_setCell_other _ _ _ _ (nb _ 1), World.cell?_setCell_other _ _ _ _ (nb _ 1), World.cell?_setCell_other _ _ _ _ (nb _ 1), World.cell?_setCell_other _ _ _ _ (nb _ 1)]
  exact pk
 have bel2 : Below b w w' := by
  rw [hw']
  exact (((((bel.setCell (Nat.le_refl _) _).setCell (Nat.le_refl _) _).setCell (Nat.le_refl _) _).setCell (Nat.le_refl _) _).drew).drew
 clear hw'
 go_wp2
 go_ret
 exact ⟨rfl, bel2⟩

/-- A greater number: its inverse is computed at once. -/
theorem of_great (b : Nat) (a : Int) (a0 : 128 ≤ a) (a1 : a < 2147483647) (w : World) :
  Calls Tryz.prog 151 #[.pointer (some ⟨b, 0, none⟩), .int .i64 a] w fun e w' => e = .returned (.int .i64 (M.pw a 2147483645)) ∧ Below w.heap.size w w' := by
 go_enter Tryz.func151, Tryz.ntmps151
 go_wp2_with (go_at_call 156; refine (inverse_any _ _ (by omega) a1).mono ?_; rintro e w' ⟨rfl, rfl⟩)
 go_ret
 exact ⟨rfl, (Below.refl _ _).alloc (Nat.le_refl _) _⟩

def cellIs (o : Option Value) (v : Value) : Bool := match o, v with
 | some (.int k x), .int k' y => k == k' && x == y
 | _, _ => false
theorem cellIs_spec {o : Option Value} {k : IntKind} {x : Int} (h : cellIs o (.int k x) = true) : o = some (.int k x) := by
 unfold cellIs at h
 split at h
 ·rename_i h2; simp at h h2; simp [h, h2]
 ·cases h
theorem kept_zero : (List.range 128).all (fun k => cellIs (Tryz.zeroCells90)[k * 4]? (.int .u32 0) && cellIs (Tryz.zeroCells90)[k * 4 + 1]? (.int .i32 0) && cellIs (Tryz.zeroCells90)[k * 4 + 3]? (.int .i64 0)) = true := by kernel_rfl
theorem kept_cells (k : Nat) (hk : k < 128) : (Tryz.zeroCells90)[k * 4]? = some (.int .u32 0) ∧ (Tryz.zeroCells90)[k * 4 + 1]? = some (.int .i32 0) ∧ (Tryz.zeroCells90)[k * 4 + 3]? = some (.int .i64 0) := by
 have h := List.all_eq_true.1 kept_zero k (List.mem_range.2 hk)
 simp only [Bool.and_eq_true] at h
 exact ⟨cellIs_spec h.1.1, cellIs_spec h.1.2, cellIs_spec h.2⟩

end Go.Proofs.YthipgpbapdambaaGreat
