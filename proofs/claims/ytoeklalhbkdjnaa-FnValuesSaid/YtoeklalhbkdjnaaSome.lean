/- A drawn row of values. -/
import Derived.Test.YtoeklalhbkdjnaaList
namespace Go.Proofs.Ytoeklalhbkdjnaa
open Go.RowKit
set_option linter.unusedVariables false
set_option linter.unusedSimpArgs false

def lenV : Value → Nat
  | .slice _ n _ => n
  | _ => 0
theorem row_one (w : World) (x : Int) : (w.alloc (.cells #[.int .i64 x] 3)).ownsRow w.heap.size 3 1 (.slice (some ⟨w.heap.size, 0, none⟩) 1 1) 1 [.int .i64 x] :=
  ⟨by simp, .inr ⟨w.heap.size, 1, _, rfl, Nat.le_refl _, heap_alloc_new w _, Nat.le_refl _, by unfold maxLen; omega, by simp, by simp⟩⟩

set_option maxRecDepth 100000 in
set_option maxHeartbeats 3200000 in
theorem l2some_any (B c : Nat) (a : Option Addr) (len cap : Nat) (n : Int) (m : Nat) (hn : n = m) (w : World) (hm1 : 1 ≤ m) (hm : m ≤ 1000) (hB : B ≤ w.heap.size) (hcur : Cur B w c a len cap) :
    Calls Try.prog 28 #[.pointer (some ⟨c, 0, none⟩), .int .i64 n] w (Listed B w.heap.size c a len cap m w) := by
  subst hn
  obtain ⟨i0, hi, hz0, hz1, hz2⟩ := info_parts intInfo
  have hcs : c < w.heap.size := World.block_lt_of_cell? w ⟨c, 0, none⟩ hcur.c0
  have R0 := row_one w 1
  have cur0 := hcur.keep ((Below.refl B w).alloc hB (.cells #[.int .i64 1] 3)) (Below.heap_alloc _ _ _ hcs)
  have gr0 : w.grownBy (w.alloc (.cells #[.int .i64 1] 3)) (some c) := grownBy.alloc (grownBy.refl _ _) _
  go_enter Try.func28, Try.ntmps28
  go_wp2_with fail
  go_loopw [5] (fun v wr => ∃ (au : Option Addr) (ku : Nat) (xs : List Int), v = .slice au xs.length ku ∧ 1 ≤ xs.length ∧ xs.length ≤ m ∧ (∀ x ∈ xs, Fits x) ∧ wr.ownsRow w.heap.size 3 1 v xs.length (xs.map (Value.int .i64)) ∧ Cur B wr c a len cap ∧ w.grownBy wr (some c)) (fun v _ => m - lenV v)
  case atStart => exact ⟨_, _, [1], rfl, Nat.le_refl _, hm1, (by intro x hx; simp at hx; subst hx; unfold Fits; omega), R0, cur0, gr0⟩
  case round =>
    obtain ⟨au, ku, xs, rfl, hx1, hxm, hfit, hown, cu, gr⟩ := hrel
    clear R0 cur0 gr0
    have hBr : B ≤ wr.heap.size := Nat.le_trans hB gr.size
    have hne := own_ne hown hcs
    by_cases hlt : xs.length < m
    · go_wp2_with fail
      refine (l1Below_any B c a len cap _ _ (by omega) hBr cu).mono ?_
      rintro e w1 ⟨x, rfl, ⟨x0, x1⟩, cu1, gr1⟩
      have gr1' := grownBy.trans gr gr1
      have hown1 := hown.kept gr1 (.inr hne)
      have hB1 : B ≤ w1.heap.size := Nat.le_trans hBr gr1.size
      have hc1 : c < w1.heap.size := Nat.lt_of_lt_of_le hcs gr1'.size
      clear hown gr cu
      go_wp2_with fail
      have el := Elems.new (w := w1) (t := 3) (l := [0, 1, 2, 255, 2147483646, x]) (P := Fits) _ rfl (by
        intro v hv
        simp only [List.mem_cons, List.not_mem_nil, or_false] at hv
        unfold Fits
        omega)
      have cu2 := cu1.keep ((Below.refl B w1).alloc hB1 (.cells #[.int .i64 0, .int .i64 1, .int .i64 2, .int .i64 255, .int .i64 2147483646, .int .i64 x] 3)) (Below.heap_alloc _ _ _ hc1)
      refine (l1PickInt_any B c a len cap w1.heap.size 0 6 6 Fits _ (by omega) (by omega) (by omega) (by simp) (by simp; omega) cu2 el).mono ?_
      rintro e w3 ⟨y, rfl, hy, cu3, gr3⟩
      have gr3' := grownBy.trans (grownBy.alloc gr1' (.cells #[.int .i64 0, .int .i64 1, .int .i64 2, .int .i64 255, .int .i64 2147483646, .int .i64 x] 3)) gr3
      have hown3 := (hown1.alloc (.cells #[.int .i64 0, .int .i64 1, .int .i64 2, .int .i64 255, .int .i64 2147483646, .int .i64 x] 3)).kept gr3 (.inr hne)
      have hc3 : c < w3.heap.size := Nat.lt_of_lt_of_le hcs gr3'.size
      have hs3 : w.heap.size ≤ w3.heap.size := gr3'.size
      clear el cu1 cu2 gr1 gr1' gr3 hown1
      have cu4 := cu3.keep ((Below.refl B w3).alloc (by omega) (.cells #[.int .i64 y] 3)) (Below.heap_alloc _ _ _ hc3)
      have gr4 := grownBy.alloc gr3' (.cells #[.int .i64 y] 3)
      go_wp2_with (at_builtin; refine wpList_append_own _ rfl _ _ 26 rfl w.heap.size 3 i0 (.int .i64 0) 1 8 Try.underlying26 hi hz0 hz1 hz2 rfl (by decide) _ _ _ rfl (hown3.alloc _) ⟨w3.heap.size, 0, none⟩ 1 1 [.int .i64 y] rfl rfl ?c1 ?c2 ?c3 ?c4 ?c5 ?_)
      case c1 =>
        intro j u hj
        match j, hj with
        | 0, hj => simp at hj; subst hj; simp [Addr.add]
      case c2 => intro u hu; simp at hu; subst hu; rfl
      case c3 => unfold maxLen; omega
      case c4 => omega
      case c5 => simp; omega
      intro v' w5 hown5 hgr5 _
      have cu5 := cu4.own hB hcs (by simp; omega) (hown3.alloc _) hgr5
      have gr5 := grown_own gr4 (Nat.le_refl _) (hown3.alloc _) hgr5
      have fit5 : ∀ z ∈ xs ++ [y], Fits z := by
        intro z hz
        rcases List.mem_append.1 hz with hz | hz
        · exact hfit z hz
        · simp at hz; rw [hz]; exact hy
      have hown5' : w5.ownsRow w.heap.size 3 1 v' (xs ++ [y]).length ((xs ++ [y]).map (Value.int .i64)) := by
        rw [List.map_append, List.length_append]; exact hown5
      clear hown5 hgr5 hown3 cu4 gr4 cu3 gr3'
      obtain ⟨au', ku', rfl⟩ : ∃ a' k', v' = .slice a' (xs ++ [y]).length k' := by
        rcases hown5'.2 with ⟨e, h⟩ | ⟨g, cp, cur, e, _⟩
        · exfalso; simp at h
        · exact ⟨_, _, e⟩
      have hl5 : (xs ++ [y]).length = xs.length + 1 := by simp
      go_wp2_with fail
      go_roundw
      case rel => exact ⟨_, _, xs ++ [y], rfl, by omega, by omega, fit5, hown5', cu5, gr5⟩
      case measure => simp [lenV]; omega
    · obtain rfl : m = xs.length := by omega
      go_wp2_with fail
      go_ret
      exact ⟨_, xs, rfl, rfl, hfit, hown, cu, gr⟩
end Go.Proofs.Ytoeklalhbkdjnaa
