/- combined, combine: the terms of a plus k times b, ranged over and collected. -/
import Derived.Test.YteekpdlkdpkegaaMrg
import Derived.Test.YteekpdlkdpkegaaConst
import Derived.RangeFuncNested
import Derived.RangeFuncBound
import Derived.RangeFuncCalls
import Derived.RangeFuncLeaves
import Derived.RangeFuncBox
import Derived.Shelf.Abstract
import Derived.Shelf.RegionOpen
import Derived.OwnWalkIn
import Derived.TacticsInMore
import Derived.LoopNIn
import Derived.LoopIn
import Derived.Maps.AppendAt
import Derived.Deep.RegionWith
import Derived.StillTailTactics
namespace Go.Proofs.Yteekpdlkdpkegaa.L
open Go.RowKit Go.Proofs.Yteekpdlkdpkegaa.S
set_option linter.unusedVariables false
set_option linter.unusedSimpArgs false

set_option maxHeartbeats 1600000 in
theorem times_term (x y k : Int) (w : World) (y0 : 0 ≤ y) (y1 : y < 2147483647) (k0 : 0 ≤ k) (k1 : k < 2147483647) :
    Calls Try.prog 163 #[.agg #[.int .i64 x, .int .i64 y], .int .i64 k] w fun e w' => e = .returned (.agg #[.int .i64 x, .int .i64 (y * k % 2147483647)]) ∧ Below w.heap.size w w' := by
  go_enter Try.func163, Try.ntmps163
  go_wp2_with fail
  go_region_with (go_at_call 170; refine (times_any y k _ y0 y1 k0 k1).mono ?_; rintro e w' ⟨rfl, rfl⟩)
  all_goals go_wp2_with fail
  all_goals exact bodyPost_ret (v := .agg #[.int .i64 x, .int .i64 (y * k % 2147483647)]) (by simp [results, Try.results163, go_sem]) rfl ⟨rfl, by (repeat (first | with_reducible exact Below.refl _ _ | with_reducible assumption | with_reducible refine Below.drew ?_ | with_reducible refine bdrewN ?_ _ | ((with_reducible refine balloc ?_ ?_ _); (focus (first | with_reducible exact Nat.le_refl _ | (simp; done) | omega | (simp; omega) | exact Nat.le_refl _))) | ((with_reducible refine bset ?_ ?_ _); (focus (first | with_reducible exact Nat.le_refl _ | (simp; done) | omega | (simp; omega) | exact Nat.le_refl _)))))⟩

set_option maxHeartbeats 1600000 in
theorem plus_term (x y u v : Int) (w : World) (y0 : 0 ≤ y) (y1 : y < 2147483647) (v0 : 0 ≤ v) (v1 : v < 2147483647) :
    Calls Try.prog 164 #[.agg #[.int .i64 x, .int .i64 y], .agg #[.int .i64 u, .int .i64 v]] w fun e w' => e = .returned (.agg #[.int .i64 x, .int .i64 ((y + v) % 2147483647)]) ∧ Below w.heap.size w w' := by
  go_enter Try.func164, Try.ntmps164
  go_wp2_with fail
  go_region_with (go_at_call 171; refine (plus_any y v _ y0 y1 v0 v1).mono ?_; rintro e w' ⟨rfl, rfl⟩)
  all_goals go_wp2_with fail
  all_goals exact bodyPost_ret (v := .agg #[.int .i64 x, .int .i64 ((y + v) % 2147483647)]) (by simp [results, Try.results164, go_sem]) rfl ⟨rfl, by (repeat (first | with_reducible exact Below.refl _ _ | with_reducible assumption | with_reducible refine Below.drew ?_ | with_reducible refine bdrewN ?_ _ | ((with_reducible refine balloc ?_ ?_ _); (focus (first | with_reducible exact Nat.le_refl _ | (simp; done) | omega | (simp; omega) | exact Nat.le_refl _))) | ((with_reducible refine bset ?_ ?_ _); (focus (first | with_reducible exact Nat.le_refl _ | (simp; done) | omega | (simp; omega) | exact Nat.le_refl _)))))⟩

/-- What a round must keep for the iterator: what lay below n₀, and its three boxes. -/
def Three (c : Nat) (va vb vk : Value) (W : World) : Prop := Boxed W c 39 va ∧ Boxed W (c + 1) 39 vb ∧ Boxed W (c + 2) 111 vk
def Kp (n₀ c : Nat) (va vb vk : Value) (W W' : World) : Prop := Below n₀ W W' ∧ (Three c va vb vk W → Three c va vb vk W')

set_option maxHeartbeats 1600000 in
theorem combined_any (a b : Option Addr) (la ca lb cb : Nat) (k : Int) (w : World) :
    Calls Try.prog 136 #[.agg #[.slice a la ca], .agg #[.slice b lb cb], .int .i64 k] w fun e w' =>
      e = .returned (.func (.func 162) #[] #[.pointer (some ⟨w.heap.size, 0, none⟩), .pointer (some ⟨w.heap.size + 1, 0, none⟩), .pointer (some ⟨w.heap.size + 2, 0, none⟩)]) ∧
      w' = ((w.alloc (.cells #[.slice a la ca] 39)).alloc (.cells #[.slice b lb cb] 39)).alloc (.cells #[.int .i64 k] 111) := by
  have hmf : ∀ (fn : Fn) (first cap : Array Value) (w : World), (Instr.makeFunc fn first cap).run Try.prog w = .ok (.func fn first cap) w := fun _ _ _ _ => rfl
  go_enter Try.func136, Try.ntmps136
  go_wp2_with fail
  go_ret
  exact ⟨rfl, rfl⟩
end Go.Proofs.Yteekpdlkdpkegaa.L
