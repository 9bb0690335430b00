/- Inverses that are kept: what (*inverses).of returns at any state of what is kept, and what it changes. -/
import Derived.Test.YthipgpbapdambaaGreatInv
import Derived.Test.YthipgpbapdambaaGreatB3
namespace Go.Proofs.YthipgpbapdambaaGreat.L
open Go.RowKit Go.Proofs.YthipgpbapdambaaGreat.S
set_option linter.unusedVariables false
set_option linter.unusedSimpArgs false

set_option maxRecDepth 100000 in
set_option maxHeartbeats 1600000 in
/-- A Once that is done: nothing is called. -/
theorem do_again (b off : Nat) (f : Fn) (caps : Array Value) (w : World) (h0 : w.cell? ⟨b, off, none⟩ = some (.int .u32 1)) :
  Calls Tryz.prog 157 #[.pointer (some ⟨b, off, none⟩), .func f #[] caps] w fun e w' => e = .returned (.tuple #[]) ∧ w' = w := by
 have hl := run_call_load (P := Tryz.prog) Tryz.func162 (by kernel_rfl) (by kernel_rfl) (by kernel_rfl) .u32 (by kernel_rfl) h0
 have hnot : ∀ (x : Bool) (w : World), (Op.unary .not (.bool x)).run Tryz.prog w = .ok (.bool (!x)) w := fun _ _ => rfl
 go_enter Tryz.func157, Tryz.ntmps157
 go_wp2_with (go_at_call 160; go_in)
 go_end0
 exact ⟨rfl, rfl⟩

/-- The cells of the k-th inverse: not yet computed, or kept. -/
def KCell (g k : Nat) (w : World) : Prop :=
 (w.cell? ⟨g, k * 4, none⟩ = some (.int .u32 0) ∧ w.cell? ⟨g, k * 4 + 1, none⟩ = some (.int .i32 0) ∧ ∃ x, w.cell? ⟨g, k * 4 + 3, none⟩ = some x) ∨
 (w.cell? ⟨g, k * 4, none⟩ = some (.int .u32 1) ∧ w.cell? ⟨g, k * 4 + 3, none⟩ = some (.int .i64 (M.pw k 2147483645)))
def Known (g : Nat) (w : World) : Prop := g < w.heap.size ∧ (∀ k, k < 128 → KCell g k w) ∧ ∀ j, w.frozen? ⟨g, j, none⟩ = false
theorem KCell.same {g k : Nat} {w w' : World} (h : KCell g k w) (hc : ∀ j, w'.cell? ⟨g, j, none⟩ = w.cell? ⟨g, j, none⟩) : KCell g k w' := by
 unfold KCell at *
 simp only [hc]
 exact h
theorem Known.keep {g : Nat} {w w' : World} (h : Known g w) (hb : Below w.heap.size w w') : Known g w' :=
 ⟨Nat.lt_of_lt_of_le h.1 hb.size, fun k hk => (h.2.1 k hk).same fun j => World.cell?_of_block (a := ⟨g, j, none⟩) (hb.block g h.1), fun j => (World.frozen?_of_block (a := ⟨g, j, none⟩) (hb.block g h.1)).trans (h.2.2 j)⟩
theorem Known.drew {g : Nat} {w : World} (h : Known g w) : Known g w.drew := ⟨h.1, fun k hk => (h.2.1 k hk).same fun j => rfl, h.2.2⟩
/-- What a request changes: the inverse is kept. -/
theorem Known.put {g k : Nat} {w : World} (hk : k < 128) (h : Known g w) (h0 : w.cell? ⟨g, k * 4, none⟩ = some (.int .u32 0)) (h1 : w.cell? ⟨g, k * 4 + 1, none⟩ = some (.int .i32 0)) {x : Value} (h3 : w.cell? ⟨g, k * 4 + 3, none⟩ = some x) :
  Known g ((((w.setCell ⟨g, k * 4 + 1, none⟩ (.int .i32 1)).setCell ⟨g, k * 4 + 3, none⟩ (.int .i64 (M.pw k 2147483645))).setCell ⟨g, k * 4, none⟩ (.int .u32 1)).setCell ⟨g, k * 4 + 1, none⟩ (.int .i32 0)).drew.drew := by
 obtain ⟨hl, hc, hf⟩ := h
 refine ⟨by simpa [World.drew] using hl, fun j hj => ?_, fun j => by simp [hf j]⟩
 by_cases e : j = k
 ·subst e
  refine .inr ⟨?_, ?_⟩
  ·rw [World.cell?_drew, World.cell?_drew]
   refine (World.cell?_setCell_other _ ⟨g, j * 4 + 1, none⟩ ⟨g, j * 4, none⟩ _ (by simp)).trans ?_
   exact World.cell?_setCell_same _ _ _ ((World.cell?_setCell_other _ ⟨g, j * 4 + 3, none⟩ ⟨g, j * 4, none⟩ _ (by simp)).trans ((World.cell?_setCell_other _ ⟨g, j * 4 + 1, none⟩ ⟨g, j * 4, none⟩ _ (by simp)).trans h0))
  ·rw [World.cell?_drew, World.cell?_drew]
   refine (World.cell?_setCell_other _ ⟨g, j * 4 + 1, none⟩ ⟨g, j * 4 + 3, none⟩ _ (by simp)).trans ?_
   refine (World.cell?_setCell_other _ ⟨g, j * 4, none⟩ ⟨g, j * 4 + 3, none⟩ _ (by simp)).trans ?_
   exact World.cell?_setCell_same _ _ _ ((World.cell?_setCell_other _ ⟨g, j * 4 + 1, none⟩ ⟨g, j * 4 + 3, none⟩ _ (by simp)).trans h3)
 ·have ne : ∀ p q, p < 4 → q < 4 → (⟨g, k * 4 + p, none⟩ : Addr) ≠ ⟨g, j * 4 + q, none⟩ := fun p q hp hq h => by
   have := congrArg Addr.off h
   simp at this
   omega
  have st : ∀ q, q < 4 → ((((w.setCell ⟨g, k * 4 + 1, none⟩ (.int .i32 1)).setCell ⟨g, k * 4 + 3, none⟩ (.int .i64 (M.pw k 2147483645))).setCell ⟨g, k * 4, none⟩ (.int .u32 1)).setCell ⟨g, k * 4 + 1, none⟩ (.int .i32 0)).drew.drew.cell? ⟨g, j * 4 + q, none⟩ = w.cell? ⟨g, j * 4 + q, none⟩ := fun q hq => by
   rw [World.cell?_drew, World.cell?_drew, World.cell?_setCell_other _ _ _ _ (ne 1 q (by omega) hq), World.cell?_setCell_other _ _ _ _ (show (⟨g, k * 4, none⟩ : Addr) ≠ ⟨g, j * 4 + q, none⟩ from ne 0 q (by omega) hq), World.cell?_setCell_other _ _ _ _ (ne 3 q (by omega) hq), World.cell?_setCell_other _ _ _ _ (ne 1 q (by omega) hq)]
  rcases hc j hj with ⟨a0, a1, x', a3⟩ | ⟨a0, a3⟩
  ·exact .inl ⟨(st 0 (by omega)).trans a0, (st 1 (by omega)).trans a1, x', (st 3 (by omega)).trans a3⟩
  ·exact .inr ⟨(st 0 (by omega)).trans a0, (st 3 (by omega)).trans a3⟩

set_option maxRecDepth 100000 in
set_option maxHeartbeats 3200000 in
theorem known_of (g : Nat) (a : Int) (a0 : 0 ≤ a) (a1 : a < 2147483647) (w : World) (K : Known g w) :
  Calls Tryz.prog 151 #[.pointer (some ⟨g, 0, none⟩), .int .i64 a] w fun e w' => e = .returned (.int .i64 (M.pw a 2147483645)) ∧ Known g w' ∧ OnlyF (fun q => q = g) w w' := by
 by_cases hs : 128 ≤ a
 ·refine (of_great g a hs a1 w).mono ?_
  rintro e w' ⟨rfl, hb⟩
  exact ⟨rfl, K.keep hb, .of_below hb⟩
 obtain ⟨k, rfl⟩ := Int.eq_ofNat_of_zero_le a0
 have hk : k < 128 := by omega
 have hmf : ∀ (fn : Fn) (first cap : Array Value) (w : World), (Instr.makeFunc fn first cap).run Tryz.prog w = .ok (.func fn first cap) w := fun _ _ _ _ => rfl
 obtain ⟨W, hW⟩ : ∃ W, W = ((w.alloc (Obj.cells #[Value.int IntKind.i64 k] 85)).alloc (Obj.cells #[Value.pointer (some ⟨g, k * 4, none⟩)] 211)).drew := ⟨_, rfl⟩
 have bel : Below w.heap.size w W := by rw [hW]; (repeat (with_reducible first | exact bR _ _ | assumption | refine bD ?_ | refine bN ?_ _ | refine bA ?_ _ | refine bS ?_ _))
 have K1 : Known g W := K.keep bel
 have on1 : OnlyF (fun q => q = g) w W := .of_below bel
 have pa : W.cell? ⟨w.heap.size, 0, none⟩ = some (.int .i64 k) := by rw [hW, World.cell?_drew, World.cell?_alloc_past _ _ _ (by simp)]; simp
 have pk : W.cell? ⟨w.heap.size + 1, 0, none⟩ = some (.pointer (some ⟨g, k * 4, none⟩)) := by rw [hW, World.cell?_drew]; simp
 have lg := K.1
 have HW := Lib.hid hW
 clear hW K
 rcases K1.2.1 k hk with ⟨c0, c1, x3, c3⟩ | ⟨c0, c3⟩
 ·have z0 := K1.2.2 (k * 4)
  have z1 := K1.2.2 (k * 4 + 1)
  have z3 := K1.2.2 (k * 4 + 3)
  have KP := K1.put hk c0 c1 c3
  go_enter Tryz.func151, Tryz.ntmps151
  go_wp2_with fail
  go_region
  all_goals go_wp2_with fail
  rw [← HW.out]
  refine (do_first g (k * 4) k (by omega) (by omega) ⟨w.heap.size, 0, none⟩ ⟨w.heap.size + 1, 0, none⟩ (by simp; omega) (by simp; omega) x3 W pa pk c0 c1 c3 z0 z1 z3).mono ?_
  rintro e w' ⟨rfl, hw'⟩
  rw [← hw'] at KP
  have on2 : OnlyF (fun q => q = g) w w' := by
   rw [hw']
   exact (((((on1.setCell (p := ⟨g, _, none⟩) rfl _).setCell (p := ⟨g, _, none⟩) rfl _).setCell (p := ⟨g, _, none⟩) rfl _).setCell (p := ⟨g, _, none⟩) rfl _).drew).drew
  have q3 : w'.cell? ⟨g, k * 4 + 3, none⟩ = some (.int .i64 (M.pw k 2147483645)) := by
   rw [hw', World.cell?_drew, World.cell?_drew]
   refine (World.cell?_setCell_other _ ⟨g, k * 4 + 1, none⟩ ⟨g, k * 4 + 3, none⟩ _ (by simp)).trans ?_
   refine (World.cell?_setCell_other _ ⟨g, k * 4, none⟩ ⟨g, k * 4 + 3, none⟩ _ (by simp)).trans ?_
   exact World.cell?_setCell_same _ _ _ ((World.cell?_setCell_other _ ⟨g, k * 4 + 1, none⟩ ⟨g, k * 4 + 3, none⟩ _ (by simp)).trans c3)
  have qk : w'.cell? ⟨w.heap.size + 1, 0, none⟩ = some (.pointer (some ⟨g, k * 4, none⟩)) := by
   have nb : ∀ j, (⟨g, j, none⟩ : Addr) ≠ ⟨w.heap.size + 1, 0, none⟩ := fun j h => by have := congrArg Addr.block h; simp at this; omega
   rw [hw', World.cell?_drew, World.cell?_drew, World.cell?_setCell_other _ _ _ _ (nb _), World.cell?_setCell_other _ _ _ _ (nb _), World.cell?_setCell_other _ _ _ _ (nb _), World.cell?_setCell_other _ _ _ _ (nb _)]
   exact pk
  have HKP := Lib.hid KP
  have HON := Lib.hid on2
  clear hw' KP on2 on1 K1 bel c0 c1 c3 z0 z1 z3 pa pk
  go_wp2_with fail
  go_ret
  exact ⟨rfl, HKP.out, HON.out⟩
 ·have HK1 := Lib.hid K1
  have HON := Lib.hid on1
  clear K1 on1 bel
  go_enter Tryz.func151, Tryz.ntmps151
  go_wp2_with fail
  go_region
  all_goals go_wp2_with fail
  rw [← HW.out]
  refine (do_again g (k * 4) _ _ W c0).mono ?_
  rintro e w' ⟨rfl, rfl⟩
  go_wp2_with fail
  go_ret
  exact ⟨rfl, HK1.out, HON.out⟩
end Go.Proofs.YthipgpbapdambaaGreat.L
