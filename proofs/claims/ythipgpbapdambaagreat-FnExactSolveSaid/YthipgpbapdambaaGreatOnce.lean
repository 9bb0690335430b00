/- Inverses behind a sync.Once: the first request computes, each later one finds what was kept; what FInv returns. -/
import Derived.Test.YthipgpbapdambaaGreatB1
import Derived.Defers
import Derived.Laws.Pointers
import Derived.Laws.LoneSync
import Derived.RegionTactic
import Derived.RegionCalls
import Derived.ChangeAlike
import Derived.Laws.NewBlocks
import Derived.Deep.RegionWith
import Derived.Below
namespace Go.Proofs.YthipgpbapdambaaGreat
open Go.RowKit
set_option linter.unusedVariables false

theorem disable (w : World) : (callFunc 170 #[]).run Tryz.prog w = .ok (.value (.tuple #[])) w := run_call_mark0 Tryz.func170 (by kernel_rfl) (by kernel_rfl) (by kernel_rfl) .disable (by kernel_rfl) w
theorem enable (w : World) : (callFunc 172 #[]).run Tryz.prog w = .ok (.value (.tuple #[])) w := run_call_mark0 Tryz.func172 (by kernel_rfl) (by kernel_rfl) (by kernel_rfl) .enable (by kernel_rfl) w
theorem acquire (a : Addr) (w : World) : (callFunc 173 #[.pointer (some a)]).run Tryz.prog w = .ok (.value (.tuple #[])) w := run_call_marked Tryz.func173 (by kernel_rfl) (by kernel_rfl) (by kernel_rfl) .acquire (by kernel_rfl) a w
theorem releaseMerge (a : Addr) (w : World) : (callFunc 175 #[.pointer (some a)]).run Tryz.prog w = .ok (.value (.tuple #[])) w := run_call_marked Tryz.func175 (by kernel_rfl) (by kernel_rfl) (by kernel_rfl) .releaseMerge (by kernel_rfl) a w

set_option maxRecDepth 100000 in
/-- '(*sync/atomic.Bool).Store(true)' as a deferred call: the cell holds 1. -/
theorem store_deferred (a : Addr) (x : Value) (u : FrameMode) (w : World) (hc : w.cell? a = some x) (hz : w.frozen? a = false) :
  CallsD Tryz.prog 165 #[.pointer (some a), .bool true] u w fun e u' w' => u' = u ∧ (e = .returned (.tuple #[]) ∧ w' = w.drew.setCell a (.int .u32 1)) := by
 have hc' : w.drew.cell? a = some x := by go_simp
 have hz' : w.drew.frozen? a = false := by go_simp
 have hst := run_call_store (P := Tryz.prog) Tryz.func168 (by kernel_rfl) (by kernel_rfl) (by kernel_rfl) (by kernel_rfl) (k := .u32) (y := 1) hc' hz'
 go_enter_d Tryz.func165, Tryz.ntmps165
 go_wp2
 go_region_calls
 all_goals (go_end0; exact ⟨rfl, rfl⟩)

set_option maxRecDepth 100000 in
/-- '(*sync.Mutex).Unlock' as a deferred call, the lock held and nobody waiting (state 1): state 0. -/
theorem unlock_deferred (a : Addr) (u : FrameMode) (w : World) (hc : w.cell? a = some (.int .i32 1)) (hz : w.frozen? a = false) :
  CallsD Tryz.prog 164 #[.pointer (some a)] u w fun e u' w' => u' = u ∧ (e = .returned (.tuple #[]) ∧ w' = w.setCell a (.int .i32 0)) := by
 have hd := disable
 have he := enable
 have hr := releaseMerge
 have hadd := run_call_add (P := Tryz.prog) Tryz.func176 (by kernel_rfl) (by kernel_rfl) (by kernel_rfl) .i32 (by kernel_rfl) (y := -1) (s := 0) hc hz (by simp [go_sem]; rfl)
 have hcv := run_convert_to_unsafe (P := Tryz.prog) (src := 221) (dst := 225) Tryz.underlying221 Tryz.underlying225 (by kernel_rfl) hc
 go_enter_d Tryz.func164, Tryz.ntmps164
 go_wp2
 go_end0
 go_wp2
 go_end0
 exact ⟨rfl, rfl⟩

set_option maxRecDepth 100000 in
/-- '(*sync.Mutex).Lock', the lock free (state 0): state 1. -/
theorem lock_free (a : Addr) (w : World) (hc : w.cell? a = some (.int .i32 0)) (hz : w.frozen? a = false) :
  Calls Tryz.prog 163 #[.pointer (some a)] w fun e w' => e = .returned (.tuple #[]) ∧ w' = w.setCell a (.int .i32 1) := by
 have hd := disable
 have he := enable
 have ha := acquire
 have hcas := run_call_cas_hit (P := Tryz.prog) Tryz.func171 (by kernel_rfl) (by kernel_rfl) (by kernel_rfl) .i32 (by kernel_rfl) (y := 1) hc hz
 have hc' : (w.setCell a (.int .i32 1)).cell? a = some (.int .i32 1) := World.cell?_setCell_same w a _ hc
 have hcv := run_convert_to_unsafe (P := Tryz.prog) (src := 221) (dst := 225) Tryz.underlying221 Tryz.underlying225 (by kernel_rfl) hc'
 go_enter Tryz.func163, Tryz.ntmps163
 go_wp2
 first | go_end0 | (simp only [Exit.inBlock, Exit.then]; refine bodyPost_ret (results_none rfl _ _ _) rfl ?_) | refine bodyPost_ret (results_none rfl _ _ _) rfl ?_
 go_wp2
 go_end0
 exact ⟨rfl, rfl⟩

set_option maxRecDepth 100000 in
/-- The function that is handed to Do: the inverse of a is laid where it is kept. -/
theorem closure_any (b off : Nat) (a : Int) (a0 : 0 ≤ a) (a1 : a < 2147483647) (pa pk : Addr) (x3 : Value) (w : World)
  (ha : w.cell? pa = some (.int .i64 a)) (hk : w.cell? pk = some (.pointer (some ⟨b, off, none⟩))) (h3 : w.cell? ⟨b, off + 3, none⟩ = some x3) (f3 : w.frozen? ⟨b, off + 3, none⟩ = false) :
  Calls Tryz.prog 158 #[.pointer (some pa), .pointer (some pk)] w fun e w' => e = .returned (.tuple #[]) ∧ w' = w.drew.setCell ⟨b, off + 3, none⟩ (.int .i64 (M.pw a 2147483645)) := by
 go_enter Tryz.func158, Tryz.ntmps158
 go_wp2
 go_region_with (go_at_call 156; refine (inverse_any _ _ a0 a1).mono ?_; rintro e w' ⟨rfl, rfl⟩)
 all_goals (go_end0; exact ⟨rfl, rfl⟩)

set_option maxRecDepth 100000 in
set_option maxHeartbeats 1600000 in
/-- '(*sync.Once).doSlow', not yet done and the lock free: the lock is taken, the function is called; behind it 'done' is stored and the lock let go. -/
theorem slow_any (b off : Nat) (a : Int) (a0 : 0 ≤ a) (a1 : a < 2147483647) (pa pk : Addr) (hpa : ¬ b = pa.block) (hpk : ¬ b = pk.block) (x3 : Value) (w : World)
  (ha : w.cell? pa = some (.int .i64 a)) (hk : w.cell? pk = some (.pointer (some ⟨b, off, none⟩)))
  (h0 : w.cell? ⟨b, off, none⟩ = some (.int .u32 0)) (h1 : w.cell? ⟨b, off + 1, none⟩ = some (.int .i32 0)) (h3 : w.cell? ⟨b, off + 3, none⟩ = some x3)
  (f0 : w.frozen? ⟨b, off, none⟩ = false) (f1 : w.frozen? ⟨b, off + 1, none⟩ = false) (f3 : w.frozen? ⟨b, off + 3, none⟩ = false) :
  Calls Tryz.prog 161 #[.pointer (some ⟨b, off, none⟩), .func (.func 158) #[] #[.pointer (some pa), .pointer (some pk)]] w fun e w' => e = .returned (.tuple #[]) ∧
   w' = ((((w.setCell ⟨b, off + 1, none⟩ (.int .i32 1)).setCell ⟨b, off + 3, none⟩ (.int .i64 (M.pw a 2147483645))).setCell ⟨b, off, none⟩ (.int .u32 1)).setCell ⟨b, off + 1, none⟩ (.int .i32 0)).drew.drew := by
 have hl := run_call_load (P := Tryz.prog) Tryz.func162 (by kernel_rfl) (by kernel_rfl) (by kernel_rfl) .u32 (by kernel_rfl) (w := w.setCell ⟨b, off + 1, none⟩ (.int .i32 1)) (a := ⟨b, off, none⟩) (x := 0) ((World.cell?_setCell_other _ ⟨b, off + 1, none⟩ ⟨b, off, none⟩ _ (by simp)).trans h0)
 have ha1 : (w.setCell ⟨b, off + 1, none⟩ (.int .i32 1)).cell? pa = some (.int .i64 a) := (World.cell?_setCell_other _ ⟨b, off + 1, none⟩ pa _ (fun h => hpa (by rw [← h]))).trans ha
 have hk1 : (w.setCell ⟨b, off + 1, none⟩ (.int .i32 1)).cell? pk = some (.pointer (some ⟨b, off, none⟩)) := (World.cell?_setCell_other _ ⟨b, off + 1, none⟩ pk _ (fun h => hpk (by rw [← h]))).trans hk
 have h31 : (w.setCell ⟨b, off + 1, none⟩ (.int .i32 1)).cell? ⟨b, off + 3, none⟩ = some x3 := (World.cell?_setCell_other _ ⟨b, off + 1, none⟩ ⟨b, off + 3, none⟩ _ (by simp)).trans h3
 have hnot : ∀ (x : Bool) (w : World), (Op.unary .not (.bool x)).run Tryz.prog w = .ok (.bool (!x)) w := fun _ _ => rfl
 go_enter_defers Tryz.func161, Tryz.ntmps161
 go_wp2_with (first | (go_at_call 163; refine (lock_free ⟨b, off + 1, none⟩ _ (by go_simp) (by go_simp)).mono ?_; rintro e w' ⟨rfl, rfl⟩) | (go_at_call 160; go_in) | (go_at_call 158; refine (closure_any b off a a0 a1 pa pk x3 _ ha1 hk1 h31 (by simp [f3])).mono ?_; rintro e w' ⟨rfl, rfl⟩))
 refine leaves_cons (f := 165) (args := #[.pointer (some ⟨b, off, none⟩), .bool true]) (by simp) (by simp [go_sem]) ?_
 refine (store_deferred ⟨b, off, none⟩ (.int .u32 0) .returning _ ?_ (by simp [f0])).mono ?_
 ·refine (World.cell?_setCell_other _ ⟨b, off + 3, none⟩ ⟨b, off, none⟩ _ (by simp)).trans ?_
  exact (World.cell?_setCell_other _ ⟨b, off + 1, none⟩ ⟨b, off, none⟩ _ (by simp)).trans h0
 rintro e u' w'' ⟨rfl, rfl, rfl⟩
 refine leaves_cons (f := 164) (args := #[.pointer (some ⟨b, off + 1, none⟩)]) (by simp [settle]) (by simp [go_sem]) ?_
 refine (unlock_deferred ⟨b, off + 1, none⟩ _ _ ?_ (by simp [f1])).mono ?_
 ·refine (World.cell?_setCell_other _ ⟨b, off, none⟩ ⟨b, off + 1, none⟩ _ (by simp)).trans ?_
  refine (World.cell?_setCell_other _ ⟨b, off + 3, none⟩ ⟨b, off + 1, none⟩ _ (by simp)).trans ?_
  exact World.cell?_setCell_same w _ _ h1
 rintro e u' w'' ⟨rfl, rfl, rfl⟩
 simp [Leaves, settle, results, Tryz.results161]
 rfl

set_option maxRecDepth 100000 in
set_option maxHeartbeats 1600000 in
theorem do_first (b off : Nat) (a : Int) (a0 : 0 ≤ a) (a1 : a < 2147483647) (pa pk : Addr) (hpa : ¬ b = pa.block) (hpk : ¬ b = pk.block) (x3 : Value) (w : World)
  (ha : w.cell? pa = some (.int .i64 a)) (hk : w.cell? pk = some (.pointer (some ⟨b, off, none⟩)))
  (h0 : w.cell? ⟨b, off, none⟩ = some (.int .u32 0)) (h1 : w.cell? ⟨b, off + 1, none⟩ = some (.int .i32 0)) (h3 : w.cell? ⟨b, off + 3, none⟩ = some x3)
  (f0 : w.frozen? ⟨b, off, none⟩ = false) (f1 : w.frozen? ⟨b, off + 1, none⟩ = false) (f3 : w.frozen? ⟨b, off + 3, none⟩ = false) :
  Calls Tryz.prog 157 #[.pointer (some ⟨b, off, none⟩), .func (.func 158) #[] #[.pointer (some pa), .pointer (some pk)]] w fun e w' => e = .returned (.tuple #[]) ∧
   w' = ((((w.setCell ⟨b, off + 1, none⟩ (.int .i32 1)).setCell ⟨b, off + 3, none⟩ (.int .i64 (M.pw a 2147483645))).setCell ⟨b, off, none⟩ (.int .u32 1)).setCell ⟨b, off + 1, none⟩ (.int .i32 0)).drew.drew := by
 have hl := run_call_load (P := Tryz.prog) Tryz.func162 (by kernel_rfl) (by kernel_rfl) (by kernel_rfl) .u32 (by kernel_rfl) h0
 have hnot : ∀ (x : Bool) (w : World), (Op.unary .not (.bool x)).run Tryz.prog w = .ok (.bool (!x)) w := fun _ _ => rfl
 go_enter Tryz.func157, Tryz.ntmps157
 go_wp2_with (first | (go_at_call 161; refine (slow_any b off a a0 a1 pa pk hpa hpk x3 _ ha hk h0 h1 h3 f0 f1 f3).mono ?_; rintro e w' ⟨rfl, rfl⟩) | (go_at_call 160; go_in))
 go_end0
 exact ⟨rfl, rfl⟩
end Go.Proofs.YthipgpbapdambaaGreat
