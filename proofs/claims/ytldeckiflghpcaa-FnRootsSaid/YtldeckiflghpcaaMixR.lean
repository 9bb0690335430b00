/- Rows of numbers that are appended to; clones; the path's root: the empty path. -/
import Derived.Test.YtldeckiflghpcaaMix4
import Derived.Test.YtldeckiflghpcaaB3
import Derived.Test.YtldeckiflghpcaaB5
namespace Go.Proofs.Ytldeckiflghpcaa.L
open Go.RowKit Go.Proofs.Ytldeckiflghpcaa.S
set_option linter.unusedVariables false
set_option linter.unusedSimpArgs false

def iv (xs : List Int) : List Value := xs.map (Value.int .i64)
theorem iv_length (xs : List Int) : (iv xs).length = xs.length * 1 := by simp [iv]
theorem iv_one (xs : List Int) : ∀ u ∈ iv xs, u.oneCell' = true := by
  intro u hu
  obtain ⟨x, _, rfl⟩ := List.mem_map.1 hu
  rfl
theorem iv_append (xs ys : List Int) : iv (xs ++ ys) = iv xs ++ iv ys := by simp [iv]
theorem ints_cells {lim : Nat} {w : World} {a : Option Addr} {n cap : Nat} {ys : List Int} (t : Ints lim w (.slice a n cap) ys) :
    (a = none → n = 0) ∧ ∀ ad, a = some ad → ∀ j u, (iv ys)[j]? = some u → w.cell? (ad.add j) = some u := by
  obtain ⟨a', cap', e, h1, h2, h3, h4⟩ := t
  simp only [Value.slice.injEq] at e
  obtain ⟨rfl, rfl, rfl⟩ := e
  rcases h4 with h4 | ⟨b, off, rfl, hlt, hc⟩
  · subst h4
    exact ⟨fun _ => rfl, fun ad _ j u hj => by simp [iv] at hj⟩
  · refine ⟨(fun q => by cases q), fun ad q j u hj => ?_⟩
    simp only [Option.some.injEq] at q
    subst q
    rw [Go.WideShapes.add_plain]
    unfold iv at hj
    rw [List.getElem?_map] at hj
    cases hx : ys[j]? with
    | none => rw [hx] at hj; simp at hj
    | some x => rw [hx] at hj; simp at hj; subst hj; exact hc j x hx
theorem row_made (w0 : Nat) (t : TypeId) (w : World) (h : w0 ≤ w.heap.size) : (w.alloc (.cells #[] t)).ownsRow w0 t 1 (.slice (some ⟨w.heap.size, 0, none⟩) 0 0) 0 (iv []) := by
  have q := World.ownsRow_made (base := w0) (size := 1) (e := t) w #[] 0 (by first | exact h | simp) (Nat.zero_le _) (by first | exact h | simp)
  exact q

theorem ints_fits {lim : Nat} {w : World} {v : Value} {xs : List Int} (t : Ints lim w v xs) : ∀ x ∈ xs, S.Fits x := by obtain ⟨_, _, _, _, _, h, _⟩ := t; exact h

set_option maxRecDepth 100000 in
set_option maxHeartbeats 1600000 in
theorem cloneI_any (lim : Nat) (v : Value) (xs : List Int) (w : World) (t : Ints lim w v xs) (hlim : lim ≤ w.heap.size) (hl : xs.length ≤ 4194304) (hne : 0 < xs.length) :
    Calls Try.prog 44 #[v] w (ResN w xs) := by
  obtain ⟨a, ca, rfl, la, ba⟩ := t.shape
  obtain ⟨i0, hi0, hz0, hz1, hz2⟩ := info_parts S.intInfo
  have F := Lib.hid (ints_fits t)
  obtain ⟨b, off, x, rfl, -, c0, -, -⟩ := t.at (k := 0) hne
  clear c0
  have heq : ∀ w, Sem.run Try.prog (binOp .eql 24 (.slice (some ⟨b, off, none⟩) xs.length ca) (.slice none 0 0)) w = .ok (.bool false) w := fun w => by simp only [binOp]; simp [run_equal_slice_nil (P := Try.prog) w 24 3 (some ⟨b, off, none⟩) xs.length ca (by kernel_rfl)]
  go_enter Try.func44, Try.ntmps44
  go_wp2_with (at_builtin; refine name_list ?_)
  intro W hW
  have b1 : Below w.heap.size w W := by rw [hW]; (repeat (with_reducible first | exact bR _ _ | assumption | refine bD ?_ | refine bN ?_ _ | refine bA ?_ _ | refine bS ?_ _))
  have C := Lib.hid (ints_cells (t.keep b1 hlim))
  have row0 : W.ownsRow w.heap.size 3 1 (.slice (some ⟨w.heap.size, 0, none⟩) 0 0) 0 (iv []) := by rw [hW]; exact row_made _ _ _ (Nat.le_refl _)
  have z1 := b1.size
  clear hW
  go_wp2_with (at_builtin; refine wpList_append_spread _ rfl _ _ 24 rfl w.heap.size 3 i0 (.int .i64 0) 1 8 Try.underlying24 hi0 hz0 hz1 hz2 rfl (by decide) (.slice (some ⟨w.heap.size, 0, none⟩) 0 0) 0 (iv []) rfl row0 _ _ _ (iv xs) rfl (iv_length xs) C.out.1 C.out.2 (iv_one xs) (by unfold maxLen; omega) (by omega) z1 ?_; rintro v' w5 ⟨hown, hgrow, -⟩; obtain ⟨a', cap', rfl⟩ := own_slice hown; have e5 : Below w.heap.size W w5 := below_grown (row := some w.heap.size) hgrow z1 (fun k e => by simp at e; omega); have b5 := b1.trans e5; have fin := Nums.own (by simpa [iv] using hown) F.out)
  clear hown hgrow row0 C e5
  go_wp2_with fail
  go_ret
  exact ⟨_, rfl, b5, fin⟩

set_option maxRecDepth 100000 in
set_option maxHeartbeats 1600000 in
theorem sameInts_any (lim : Nat) (v u : Value) (xs ys : List Int) (w : World) (h1 : Ints lim w v xs) (h2 : Ints lim w u ys) :
    Calls Try.prog 29 #[v, u] w fun e w' => e = .returned (.bool (decide (xs = ys))) ∧ Below lim w w' := by
  obtain ⟨a, ca, rfl, la, ba⟩ := h1.shape
  obtain ⟨b, cb, rfl, lb, bb⟩ := h2.shape
  by_cases hl : xs.length = ys.length
  · have hne : ((xs.length : Int) != (ys.length : Int)) = false := by simp [hl]
    have HL := Lib.hid hl
    clear hl
    go_enter Try.func29, Try.ntmps29
    go_wp2_with fail
    go_loopw [5] (fun i wr => ∃ k n : Nat, k ≤ xs.length ∧ i = .int .i64 k ∧ wr = w.drewN n ∧ xs.take k = ys.take k) (fun i _ => xs.length - (intOf i).toNat)
    case atStart => exact ⟨0, 0, Nat.zero_le _, rfl, rfl, rfl⟩
    case round =>
      obtain ⟨k, n, hk, rfl, hwr, ht⟩ := hrel
      have HT := Lib.hid ht
      clear ht
      have be : Below lim w wr := by rw [hwr]; exact below_drewN _ _ _
      by_cases hlt : k < xs.length
      · have hlt2 : k < ys.length := by rw [← HL.out]; exact hlt
        obtain ⟨b1, o1, x, rfl, l1, c1, e1, _⟩ := (h1.keep be (Nat.le_refl _)).at hlt
        obtain ⟨b2, o2, y, rfl, l2, c2, e2, _⟩ := (h2.keep be (Nat.le_refl _)).at hlt2
        by_cases hxy : x = y
        · have hb : (x != y) = false := by simp [hxy]
          have HR : Hid (xs.take (k + 1) = ys.take (k + 1)) := Lib.hid (by rw [take_step e1, take_step e2, HT.out, hxy])
          have HW := Lib.hid hwr
          clear hxy hwr e1 e2
          go_wp2_with fail
          go_region
          go_wp2_with fail
          go_roundw
          case rel => exact ⟨k + 1, n + 1, by omega, by go_num, by rw [HW.out]; rfl, HR.out⟩
          case measure => simp [intOf]; omega
        · have hb : (x != y) = true := by simp [hxy]
          have HF := Lib.hid (S.take_ne e1 e2 hxy)
          clear hwr e1 e2
          go_wp2_with fail
          go_region
          go_wp2_with fail
          go_ret
          exact ⟨ret_bool HF.out.symm, be.drew⟩
      · have HF : Hid (decide (xs = ys) = true) := Lib.hid (by
          rw [decide_eq_true_iff]
          have := HT.out
          have h2 := HL.out
          rwa [take_end hlt, take_end (by omega)] at this)
        clear hwr
        go_wp2_with fail
        go_ret
        exact ⟨ret_bool HF.out.symm, be⟩
  · have hne : ((xs.length : Int) != (ys.length : Int)) = true := by simp; omega
    have HF : Hid (decide (xs = ys) = false) := Lib.hid (by rw [decide_eq_false_iff_not]; intro e; exact hl (by rw [e]))
    clear hl
    go_enter Try.func29, Try.ntmps29
    go_wp2_with fail
    go_ret
    exact ⟨ret_bool HF.out.symm, Below.refl _ _⟩

def rootNil (xs : List Int) : List Int := if fourB xs = true then xs else []
set_option maxRecDepth 100000 in
set_option maxHeartbeats 1600000 in
theorem root_nil (lim : Nat) (v : Value) (xs : List Int) (w : World) (t : Ints lim w v xs) (hlim : lim ≤ w.heap.size) :
    Calls Try.prog 23 #[v, .slice none 0 0, .slice none 0 0] w (ResN w (rootNil xs)) := by
  obtain ⟨a, ca, rfl, la, ba⟩ := t.shape
  have HC := Lib.hid (fourBytes_any lim (.slice a xs.length ca) xs w t)
  by_cases hb : fourB xs = true
  case' neg =>
    have hb' : fourB xs = false := by simpa using hb
    have HF := Lib.hid (show rootNil xs = [] from if_neg hb)
    have HC' := HC.out
    rw [hb'] at HC'
    have HD := Lib.hid HC'
    clear hb hb' HC HC'
    go_enter Try.func23, Try.ntmps23
    go_wp2_with fail
    refine HD.out.mono ?_; rintro e w1 ⟨rfl, f1⟩
    go_wp2_with fail
    go_ret
    exact ResN.nil HF.out f1
  have HF := Lib.hid (show rootNil xs = xs from if_pos hb)
  have HC' := HC.out
  rw [hb] at HC'
  have HD := Lib.hid HC'
  have H4 := Lib.hid (show xs.length = 4 by unfold fourB at hb; simp at hb; exact hb.1)
  have HT := Lib.hid t
  clear hb HC HC' t
  go_enter Try.func23, Try.ntmps23
  go_wp2_with fail
  refine HD.out.mono ?_; rintro e w1 ⟨rfl, f1⟩
  have z1 := f1.size
  go_wp2_with fail
  refine (cloneI_any lim _ xs w1 (HT.out.keep f1 hlim) (by omega) (by rw [H4.out]; omega) (by rw [H4.out]; omega)).mono ?_; rintro e w2 ⟨u, rfl, f2, q2⟩
  have k2 := f1.trans (f2.mono z1)
  have q3 := q2.mono (l' := w.heap.size) (h' := w2.heap.size) z1 (Nat.le_refl _)
  clear q2
  go_wp2_with fail
  go_loopw [7, 29] (fun x i wr => x = u ∧ i = .int .i64 0 ∧ wr = w2) (fun _ _ _ => 0)
  case atStart => exact ⟨rfl, rfl, rfl⟩
  case round =>
    obtain ⟨rfl, rfl, rfl⟩ := hrel
    go_wp2_with fail
    go_ret
    exact ⟨_, rfl, k2, by rw [HF.out]; exact q3⟩
end Go.Proofs.Ytldeckiflghpcaa.L
