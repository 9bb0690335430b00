/- A code that is another one; a byte of a code. -/
import Derived.Test.YtoeklalhbkdjnaaLinE
import Derived.Test.YtoeklalhbkdjnaaB3
namespace Go.Proofs.Ytoeklalhbkdjnaa.L
open Go.RowKit Go.Shelf Go.Proofs.Ytoeklalhbkdjnaa.S
set_option linter.unusedVariables false
set_option linter.unusedSimpArgs false

theorem u8Info : (Try.prog.info? 5).map (fun i => (i.zero, i.size, i.bytes)) = some (some (.int .u8 0), 1, 1) := by kernel_rfl
def numOf : Option Value → Int
  | some (.int _ x) => x
  | _ => 0
def bvr (xs : List Int) : List Value := xs.map (Value.int .u8)
theorem bvr_length (xs : List Int) : (bvr xs).length = xs.length * 1 := by simp [bvr]
theorem bvr_one (xs : List Int) : ∀ u ∈ bvr xs, u.oneCell' = true := by
  intro u hu
  obtain ⟨x, _, rfl⟩ := List.mem_map.1 hu
  rfl
/-- The bytes of a row as a list. -/
theorem row_list {B : Nat} {w : World} {a : Option Addr} {len : Nat} (h : Row B w a len) :
    ∃ zs : List Int, zs.length = len ∧ (∀ x ∈ zs, 0 ≤ x ∧ x ≤ 255) ∧ (a = none → len = 0) ∧ ∀ ad, a = some ad → ∀ j u, (bvr zs)[j]? = some u → w.cell? (ad.add j) = some u := by
  rcases h.2 with h0 | ⟨b, off, rfl, hb, hc⟩
  · subst h0
    exact ⟨[], rfl, by simp, fun _ => rfl, fun ad _ j u hj => by simp [bvr] at hj⟩
  · refine ⟨(List.range len).map (fun j => numOf (w.cell? ⟨b, off + j, none⟩)), by simp, ?_, (fun q => by cases q), ?_⟩
    · intro x hx
      obtain ⟨j, hj, rfl⟩ := List.mem_map.1 hx
      obtain ⟨n, n0, n1, e⟩ := hc j (List.mem_range.1 hj)
      rw [e]; exact ⟨n0, n1⟩
    · intro ad q j u hj
      simp only [Option.some.injEq] at q
      subst q
      rw [Go.WideShapes.add_plain]
      have hjl : j < len := by
        have := (List.getElem?_eq_some_iff.1 hj).1
        simpa [bvr] using this
      obtain ⟨n, n0, n1, e⟩ := hc j hjl
      rw [e]
      unfold bvr at hj
      rw [List.getElem?_map, List.getElem?_map, List.getElem?_range hjl] at hj
      simp only [Option.map_some, Option.some.injEq] at hj
      rw [← hj, e]
      rfl
theorem row_of_own {w : World} {base n : Nat} {a : Option Addr} {cap : Nat} {zs : List Int} (h : w.ownsRow base 5 1 (.slice a n cap) n (bvr zs)) (hz : ∀ x ∈ zs, 0 ≤ x ∧ x ≤ 255) (hm : n ≤ maxLen) : Row w.heap.size w a n := by
  refine ⟨hm, ?_⟩
  rcases h.2 with ⟨e, h0⟩ | ⟨g, cp, cur, e, _⟩
  · exact .inl h0
  · simp only [Value.slice.injEq] at e
    obtain ⟨rfl, -, rfl⟩ := e
    refine .inr ⟨g, 0, rfl, (h.lt g rfl).2, fun j hj => ?_⟩
    rw [Nat.zero_add, h.cellAt j (by omega)]
    have hl : zs.length = n := by have := h.1; simpa [bvr] using this
    have hjz : j < zs.length := by omega
    refine ⟨zs[j], (hz _ (List.getElem_mem hjz)).1, (hz _ (List.getElem_mem hjz)).2, ?_⟩
    unfold bvr
    rw [List.getElem?_map, List.getElem?_eq_getElem hjz]
    rfl
theorem row_two (w : World) (x y : Int) : (w.alloc (.cells #[.int .u8 x, .int .u8 y] 5)).ownsRow w.heap.size 5 1 (.slice (some ⟨w.heap.size, 0, none⟩) 2 2) 2 (bvr [x, y]) :=
  ⟨by simp [bvr], .inr ⟨w.heap.size, 2, _, rfl, Nat.le_refl _, heap_alloc_new w _, Nat.le_refl _, by unfold maxLen; omega, by simp, by simp [bvr]⟩⟩

set_option maxRecDepth 100000 in
set_option maxHeartbeats 1600000 in
theorem more_any (a : Option Addr) (len cap : Nat) (w : World) (hr : Row w.heap.size w a len) (hlen : len ≤ 140737488351232) :
    Calls Try.prog 7 #[.slice a len cap, .int .i64 1] w fun e w' => ∃ a' n cap', e = .returned (.slice a' n cap') ∧ Row w'.heap.size w' a' n ∧ Below w.heap.size w w' := by
  obtain ⟨i0, hi0, hz0, hz1, hz2⟩ := info_parts u8Info
  go_enter Try.func7, Try.ntmps7
  go_wp2_with (at_builtin; refine name_list ?_)
  intro W hW
  have b1 : Below w.heap.size w W := by rw [hW]; (repeat (with_reducible first | exact bR _ _ | assumption | refine bD ?_ | refine bN ?_ _ | refine bA ?_ _ | refine bS ?_ _))
  have z1 : w.heap.size + 1 ≤ W.heap.size := by rw [hW]; simp
  have row0 : W.ownsRow w.heap.size 5 1 (.slice (some ⟨w.heap.size, 0, none⟩) 2 2) 2 (bvr [1, 7]) := by rw [hW]; exact row_two w 1 7
  obtain ⟨zs, hzl, hzb, hn0, hcell⟩ := row_list (hr.keep b1)
  clear hW
  subst hzl
  have HC := Lib.hid (And.intro hn0 hcell)
  clear hn0 hcell hr
  go_wp2_with (at_builtin; refine wpList_append_spread _ rfl _ _ 22 rfl w.heap.size 5 i0 (.int .u8 0) 1 1 Try.underlying22 hi0 hz0 hz1 hz2 rfl (by decide) (.slice (some ⟨w.heap.size, 0, none⟩) 2 2) 2 (bvr [1, 7]) rfl row0 _ _ _ (bvr zs) rfl (bvr_length zs) HC.out.1 HC.out.2 (bvr_one zs) (by unfold maxLen; omega) (by omega) (by omega) ?_; rintro v' w5 ⟨hown, hgrow, -⟩; obtain ⟨a', cap', rfl⟩ := own_slice hown; have e5 : Below w.heap.size W w5 := below_grown (row := some w.heap.size) hgrow (by omega) (fun k e => by simp at e; omega); have b5 := b1.trans e5)
  have own5 : w5.ownsRow w.heap.size 5 1 (.slice a' (2 + zs.length) cap') (2 + zs.length) (bvr ([1, 7] ++ zs)) := by
    unfold bvr at hown ⊢
    rw [List.map_append]; exact hown
  have R5 := row_of_own own5 (by
    intro x hx
    rcases List.mem_append.1 hx with h | h
    · simp at h; rcases h with rfl | rfl <;> omega
    · exact hzb x h) (by unfold maxLen; omega)
  clear hown hgrow row0 HC e5 own5
  go_wp2_with fail
  go_ret
  exact ⟨_, _, _, rfl, R5, b5⟩

set_option maxRecDepth 100000 in
theorem at_any (a : Option Addr) (len cap : Nat) (w : World) (hr : Row w.heap.size w a len) :
    Calls Try.prog 11 #[.slice a len cap, .int .i64 1] w fun e w' => ∃ x : Int, e = .returned (.int .i64 x) ∧ 0 ≤ x ∧ x ≤ 255 ∧ Below w.heap.size w w' := by
  by_cases h0 : len = 0
  · subst h0
    go_enter Try.func11, Try.ntmps11
    go_wp2_with fail
    go_ret
    exact ⟨_, rfl, by omega, by omega, by (repeat (with_reducible first | exact bR _ _ | assumption | refine bD ?_ | refine bN ?_ _ | refine bA ?_ _ | refine bS ?_ _))⟩
  · rcases hr.2 with h | ⟨b, off, rfl, hb, hc⟩
    · exact absurd h h0
    have hne : ((len : Int) == 0) = false := by simp; omega
    have hm := hr.1
    unfold maxLen at hm
    by_cases h1 : len = 1
    · subst h1
      obtain ⟨n, n0, n1, e⟩ := hc 0 (by omega)
      rw [Nat.add_zero] at e
      clear hc hr
      go_enter Try.func11, Try.ntmps11
      go_wp2_with fail
      go_ret
      exact ⟨_, rfl, by omega, by omega, by (repeat (with_reducible first | exact bR _ _ | assumption | refine bD ?_ | refine bN ?_ _ | refine bA ?_ _ | refine bS ?_ _))⟩
    · obtain ⟨n, n0, n1, e⟩ := hc 1 (by omega)
      have ht : Int.tmod 1 (len : Int) = 1 := Int.tmod_eq_of_lt (by omega) (by omega)
      have hl : 1 < len := by omega
      clear hc hr
      go_enter Try.func11, Try.ntmps11
      go_wp2_with fail
      go_ret
      exact ⟨_, rfl, by omega, by omega, by (repeat (with_reducible first | exact bR _ _ | assumption | refine bD ?_ | refine bN ?_ _ | refine bA ?_ _ | refine bS ?_ _))⟩
end Go.Proofs.Ytoeklalhbkdjnaa.L
