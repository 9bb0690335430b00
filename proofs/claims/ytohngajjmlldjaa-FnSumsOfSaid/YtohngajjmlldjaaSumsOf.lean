/- Quotients come back, sums of lists are sums of their parts, dot products are symmetric: on drawn inputs. -/
import Derived.Test.YtohngajjmlldjaaList
import Derived.Test.YtohngajjmlldjaaFields
import Derived.Test.YtohngajjmlldjaaSumLaws
namespace Go.Proofs.Ytohngajjmlldjaa
open Go.RowKit
set_option linter.unusedVariables false

theorem ints_of_own {w : World} {base : Nat} {v : Value} {m : Nat} {xs : List Int} (h : w.ownsRow base 3 1 v m (xs.map (Value.int .i64))) (hm : xs.length = m) (hf : ∀ x ∈ xs, Fits x) : S.Ints w.heap.size w v xs := by
  rcases h.2 with ⟨rfl, h0⟩ | ⟨g, cap, cur, rfl, hb, hg, hc, hcm, hs, ht⟩
  · subst h0
    have : xs = [] := List.eq_nil_of_length_eq_zero hm
    subst this
    exact ⟨none, 0, rfl, Nat.le_refl _, by omega, by simp, .inl rfl⟩
  · refine ⟨some ⟨g, 0, none⟩, cap, by rw [hm], by omega, by unfold maxLen at hcm; omega, hf, ?_⟩
    refine .inr ⟨g, 0, rfl, (h.lt g rfl).2, fun j x hx => ?_⟩
    have hj : j < m := by rw [← hm]; exact (List.getElem?_eq_some_iff.1 hx).1
    rw [Nat.zero_add, h.cellAt j (by omega), List.getElem?_map, hx]
    rfl

/-- A drawn list: its value, and that nothing old was written. -/
def DrawnList (w : World) (e : Ending) (w' : World) : Prop := ∃ v xs, e = .returned v ∧ S.Ints w'.heap.size w' v xs ∧ Below w.heap.size w w'

set_option maxHeartbeats 800000 in
theorem drawFSum_any (a : Option Addr) (len cap : Nat) (w : World) (hr : Row w.heap.size w a len) :
    Calls Try.prog 30 #[.slice a len cap] w (DrawnList w) := by
  go_enter Try.func30, Try.ntmps30
  go_wp2_with fail
  refine (l1New_any a len cap w hr).mono ?_
  rintro e w1 ⟨rfl, cu1, be1, sz1⟩
  go_wp2_with fail
  refine (l1Below_any w.heap.size w.heap.size a len cap _ w1 (by omega) be1.size cu1).mono ?_
  rintro e w2 ⟨x, rfl, ⟨x0, x1⟩, cu2, gr2⟩
  obtain ⟨m, rfl⟩ := Int.eq_ofNat_of_zero_le x0
  have be2 := be1.trans (below_of_grown gr2 (Nat.le_refl _) be1.size)
  go_wp2_with fail
  refine (l1list_any w.heap.size w.heap.size a len cap m w2 (by omega) be2.size cu2).mono ?_
  rintro e w3 ⟨v, xs, rfl, hx, hf, hown, cu3, gr3⟩
  have be3 := be2.trans (below_of_grown gr3 (Nat.le_refl _) be2.size)
  have hi := ints_of_own hown hx hf
  clear hown
  go_wp2_with fail
  go_ret
  exact ⟨_, xs, rfl, hi, be3⟩

/-- Two drawn lists. -/
def DrawnLists (w : World) (e : Ending) (w' : World) : Prop := ∃ v u xs ys, e = .returned (.tuple #[v, u]) ∧ S.Ints w'.heap.size w' v xs ∧ S.Ints w'.heap.size w' u ys ∧ Below w.heap.size w w'

set_option maxRecDepth 100000 in
set_option maxHeartbeats 1600000 in
theorem drawFDot_any (a : Option Addr) (len cap : Nat) (w : World) (hr : Row w.heap.size w a len) :
    Calls Try.prog 32 #[.slice a len cap] w (DrawnLists w) := by
  go_enter Try.func32, Try.ntmps32
  go_wp2_with fail
  refine (l1New_any a len cap w hr).mono ?_
  rintro e w1 ⟨rfl, cu1, be1, sz1⟩
  go_wp2_with fail
  refine (l1Below_any w.heap.size w.heap.size a len cap _ w1 (by omega) be1.size cu1).mono ?_
  rintro e w2 ⟨x, rfl, ⟨x0, x1⟩, cu2, gr2⟩
  obtain ⟨m, rfl⟩ := Int.eq_ofNat_of_zero_le x0
  have be2 := be1.trans (below_of_grown gr2 (Nat.le_refl _) be1.size)
  go_wp2_with fail
  refine (l1list_any w.heap.size w.heap.size a len cap m w2 (by omega) be2.size cu2).mono ?_
  rintro e w3 ⟨v, xs, rfl, hx, hf, hown, cu3, gr3⟩
  have be3 := be2.trans (below_of_grown gr3 (Nat.le_refl _) be2.size)
  have hc : w.heap.size < w2.heap.size := World.block_lt_of_cell? w2 ⟨w.heap.size, 0, none⟩ cu2.c0
  have hne := own_ne hown hc
  go_wp2_with fail
  refine (l1Once_any w.heap.size w.heap.size a len cap _ w3 (by omega) be3.size cu3).mono ?_
  rintro e w4 ⟨bo, rfl, cu4, gr4⟩
  have be4 := be3.trans (below_of_grown gr4 (Nat.le_refl _) be3.size)
  have hown4 := hown.kept gr4 (.inr hne)
  have key : ∀ (k : Nat) (u : Value) (w5 : World), Listed w.heap.size w4.heap.size w.heap.size a len cap k w4 (.returned u) w5 → ∃ ys, S.Ints w5.heap.size w5 v xs ∧ S.Ints w5.heap.size w5 u ys ∧ Below w.heap.size w w5 := by
    rintro k u w5 ⟨u', ys, he, hy, hg, hown5, cu5, gr5⟩
    obtain rfl : u = u' := by simpa using he
    have be5 := be4.trans (below_of_grown gr5 (Nat.le_refl _) be4.size)
    exact ⟨ys, ints_of_own (hown4.kept gr5 (.inr hne)) hx hf, ints_of_own hown5 hy hg, be5⟩
  have KEY := Lib.hid key
  clear key hown hown4 hne
  cases bo
  · go_wp2_with fail
    refine (l1list_any w.heap.size w.heap.size a len cap m w4 (by omega) be4.size cu4).mono ?_
    intro e w5 hl
    obtain ⟨u, _, rfl, _⟩ := id hl
    obtain ⟨ys, i1, i2, be⟩ := KEY.out _ _ _ hl
    clear hl
    go_wp2_with fail
    go_ret2
    exact ⟨_, _, xs, ys, rfl, i1, i2, be⟩
  · go_wp2_with fail
    refine (l1list_any w.heap.size w.heap.size a len cap (m + 1) w4 (by omega) be4.size cu4).mono ?_
    intro e w5 hl
    obtain ⟨u, _, rfl, _⟩ := id hl
    obtain ⟨ys, i1, i2, be⟩ := KEY.out _ _ _ hl
    clear hl
    go_wp2_with fail
    go_ret2
    exact ⟨_, _, xs, ys, rfl, i1, i2, be⟩

theorem ints_take {lim : Nat} {w : World} {a : Option Addr} {len cap : Nat} {xs : List Int} (h : S.Ints lim w (.slice a len cap) xs) (k : Nat) (hk : k ≤ len) : S.Ints lim w (.slice a k cap) (xs.take k) := by
  obtain ⟨a', cap', e, h1, h2, h3, h4⟩ := h
  simp only [Value.slice.injEq] at e
  obtain ⟨rfl, rfl, rfl⟩ := e
  have hl : (xs.take k).length = k := by simp; omega
  refine ⟨a, cap, by rw [hl], by omega, h2, fun x hx => h3 x (List.mem_of_mem_take hx), ?_⟩
  rcases h4 with h4 | ⟨b, off, e, hlt, hc⟩
  · exact .inl (by rw [h4]; simp)
  · refine .inr ⟨b, off, e, hlt, fun j x hx => hc j x ?_⟩
    have hj : j < k := by have := (List.getElem?_eq_some_iff.1 hx).1; omega
    rwa [List.getElem?_take, if_pos hj] at hx
theorem ints_drop {lim : Nat} {w : World} {b off len cap : Nat} {xs : List Int} (h : S.Ints lim w (.slice (some ⟨b, off, none⟩) len cap) xs) (k : Nat) (hk : k < len) : S.Ints lim w (.slice (some ⟨b, off + k, none⟩) (len - k) (cap - k)) (xs.drop k) := by
  obtain ⟨a', cap', e, h1, h2, h3, h4⟩ := h
  simp only [Value.slice.injEq] at e
  obtain ⟨rfl, rfl, rfl⟩ := e
  have hl : (xs.drop k).length = xs.length - k := by simp
  refine ⟨_, cap - k, by rw [hl], by omega, by omega, fun x hx => h3 x (List.mem_of_mem_drop hx), ?_⟩
  rcases h4 with h4 | ⟨b', off', e, hlt, hc⟩
  · subst h4; simp at hk
  · simp only [Option.some.injEq, Addr.mk.injEq, and_true] at e
    obtain ⟨rfl, rfl⟩ := e
    refine .inr ⟨b, off + k, rfl, hlt, fun j x hx => ?_⟩
    rw [List.getElem?_drop] at hx
    rw [Nat.add_assoc]
    exact hc _ x hx

/-- The sum of the parts. -/
theorem fsum_split (xs : List Int) (k : Nat) : (0 ≤ S.fsum xs ∧ 0 ≤ S.fsum (xs.take k) ∧ 0 ≤ S.fsum (xs.drop k) ∧ (S.fsum (xs.take k) + S.fsum (xs.drop k)) % 2147483647 = S.fsum xs) ∨ (S.fsum xs < 0 ∧ S.fsum (xs.take k) < 0) ∨ (S.fsum xs < 0 ∧ 0 ≤ S.fsum (xs.take k) ∧ S.fsum (xs.drop k) < 0) := by
  by_cases h : ∀ x ∈ xs, S.fld x
  · have h1 : ∀ x ∈ xs.take k, S.fld x := fun x hx => h x (List.mem_of_mem_take hx)
    have h2 : ∀ x ∈ xs.drop k, S.fld x := fun x hx => h x (List.mem_of_mem_drop hx)
    left
    unfold S.fsum
    rw [if_pos h, if_pos h1, if_pos h2]
    have e : xs.sum = (xs.take k).sum + (xs.drop k).sum := by rw [← List.sum_append, List.take_append_drop]
    rw [e]
    omega
  · right
    have hs : S.fsum xs < 0 := by unfold S.fsum; rw [if_neg h]; omega
    by_cases h1 : ∀ x ∈ xs.take k, S.fld x
    · right
      have h2 : ¬ ∀ x ∈ xs.drop k, S.fld x := fun h2 => h fun x hx => by
        rw [← List.take_append_drop k xs] at hx
        rcases List.mem_append.1 hx with hx | hx
        · exact h1 x hx
        · exact h2 x hx
      refine ⟨hs, ?_, ?_⟩
      · unfold S.fsum; rw [if_pos h1]; omega
      · unfold S.fsum; rw [if_neg h2]; omega
    · left; refine ⟨hs, ?_⟩; unfold S.fsum; rw [if_neg h1]; omega
theorem fsum_bd (xs : List Int) : -1 ≤ S.fsum xs ∧ S.fsum xs < 2147483647 := by unfold S.fsum; split <;> omega

theorem fdiv_yes {a b : Int} (ha : S.fld a) (hb : S.fld b) : fdiv a b = a * M.pw b 2147483645 % 2147483647 := if_pos ⟨ha, hb⟩
theorem fdiv_back {a b : Int} (ha : S.fld a) (hb : S.fld b) (h : 0 < b) : fdiv a b * b % 2147483647 = a := by
  obtain ⟨a0, a1⟩ := ha
  obtain ⟨b0, b1⟩ := hb
  have h1 := M.pw_inv b (by omega)
  rw [fdiv_yes ⟨a0, a1⟩ ⟨b0, b1⟩, Int.mul_emod, Int.emod_emod, ← Int.mul_emod, Int.mul_assoc, Int.mul_comm (M.pw b _) b, Int.mul_emod, h1, Int.mul_one, Int.emod_emod]
  omega
theorem fdiv_zero {a : Int} (ha : S.fld a) : fdiv a 0 = 0 := by
  rw [fdiv_yes ha ⟨by omega, by omega⟩, M.pw_none 0 (by omega)]
  simp
theorem fdiv_bd (a b : Int) : -1 ≤ fdiv a b ∧ fdiv a b < 2147483647 := by unfold fdiv; split <;> omega
theorem fneg_bd (a : Int) : -1 ≤ fneg a ∧ fneg a < 2147483647 := by unfold fneg; split <;> omega
theorem fneg_yes {a : Int} (h : S.fld a) : (a + fneg a) % 2147483647 = 0 := by rw [show fneg a = (0 - a) % 2147483647 from if_pos h]; omega
theorem fneg_no {a : Int} (h : ¬ S.fld a) : fneg a = -1 := if_neg h

theorem Row.mono {B B' : Nat} {w : World} {a : Option Addr} {len : Nat} (h : Row B w a len) (hb : B ≤ B') : Row B' w a len := by
  obtain ⟨h1, h2⟩ := h
  refine ⟨h1, ?_⟩
  rcases h2 with h2 | ⟨b, off, e, hl, hc⟩
  · exact .inl h2
  · exact .inr ⟨b, off, e, Nat.lt_of_lt_of_le hl hb, hc⟩

set_option maxRecDepth 100000 in
set_option maxHeartbeats 12800000 in
theorem law_FnSumsOf (a : Option Addr) (len cap : Nat) (w : World) (hr : Row w.heap.size w a len) :
    Calls Try.prog 5 #[.slice a len cap] w fun e w' => e = .returned (.bool true) ∧ Below w.heap.size w w' := by
  go_enter Try.func5, Try.ntmps5
  go_wp2_with fail
  refine (drawFDiv_any a len cap w hr).mono ?_
  rintro e w1 ⟨x, y, rfl, ⟨x0, x1⟩, ⟨y0, y1⟩, be1⟩
  go_wp2_with fail
  refine (fdiv_impl x y w1 x0 x1 y0 y1).mono ?_; rintro e w2 ⟨rfl, be2⟩
  have b2 := be1.trans (be2.mono be1.size)
  have db := fdiv_bd x y
  have nb := fneg_bd x
  go_wp2_with fail
  refine (fneg_impl x w2 x0 x1).mono ?_; rintro e w' ⟨rfl, rfl⟩
  have R2 := hr.keep b2
  rcases (show (S.fld x ∧ S.fld y ∧ 0 < y) ∨ (S.fld x ∧ S.fld y ∧ y = 0) ∨ (S.fld x ∧ ¬ S.fld y) ∨ ¬ S.fld x from by unfold S.fld; omega) with ⟨hx, hy, hp⟩ | ⟨hx, hy, rfl⟩ | ⟨hx, hy⟩ | hx
  case' inl =>
    have FB := Lib.hid (fdiv_back hx hy hp)
    have NB := Lib.hid (fneg_yes hx)
    go_wp2_with fail
    refine (S.fok_yes_spec x _ hx.1 hx.2).mono ?_; rintro e w' ⟨rfl, rfl⟩
    go_wp2_with fail
    refine (S.fok_yes_spec y _ hy.1 hy.2).mono ?_; rintro e w' ⟨rfl, rfl⟩
    go_wp2_with fail
    refine (fmul_impl _ y w2 (by omega) (by omega) y0 y1).mono ?_; rintro e w' ⟨rfl, rfl⟩
    rw [FB.out]
    go_wp2_with fail
    refine (fadd_impl x _ w2 x0 x1 (by omega) (by omega)).mono ?_; rintro e w' ⟨rfl, rfl⟩
    rw [NB.out]
    go_wp2_with fail
    refine (S.fok_yes_spec x _ hx.1 hx.2).mono ?_; rintro e w' ⟨rfl, rfl⟩
    go_wp2_with fail
  case' inr.inl =>
    have NB := Lib.hid (fneg_yes hx)
    rw [fdiv_zero hx]
    go_wp2_with fail
    refine (S.fok_yes_spec x _ hx.1 hx.2).mono ?_; rintro e w' ⟨rfl, rfl⟩
    go_wp2_with fail
    refine (S.fok_yes_spec 0 _ (by omega) (by omega)).mono ?_; rintro e w' ⟨rfl, rfl⟩
    go_wp2_with fail
    refine (fadd_impl x _ w2 x0 x1 (by omega) (by omega)).mono ?_; rintro e w' ⟨rfl, rfl⟩
    rw [NB.out]
    go_wp2_with fail
    refine (S.fok_yes_spec x _ hx.1 hx.2).mono ?_; rintro e w' ⟨rfl, rfl⟩
    go_wp2_with fail
  case' inr.inr.inl =>
    go_wp2_with fail
    refine (S.fok_yes_spec x _ hx.1 hx.2).mono ?_; rintro e w' ⟨rfl, rfl⟩
    go_wp2_with fail
    refine (S.fok_no_spec y _ hy).mono ?_; rintro e w' ⟨rfl, rfl⟩
    go_wp2_with fail
    refine (S.fok_yes_spec x _ hx.1 hx.2).mono ?_; rintro e w' ⟨rfl, rfl⟩
    go_wp2_with fail
  case' inr.inr.inr =>
    rw [fneg_no hx]
    go_wp2_with fail
    refine (S.fok_no_spec x _ hx).mono ?_; rintro e w' ⟨rfl, rfl⟩
    go_wp2_with fail
    refine (S.fok_no_spec x _ hx).mono ?_; rintro e w' ⟨rfl, rfl⟩
    go_wp2_with fail
  all_goals
    refine (drawFSum_any a len cap w2 (R2.mono b2.size)).mono ?_
    rintro e w3 ⟨v, xs, rfl, i1, be3⟩
    have b3 := b2.trans (be3.mono b2.size)
    have R3 := hr.keep b3
    go_wp2_with fail
    refine (S.fsum_impl _ _ xs w3 i1).mono ?_; rintro e w' ⟨rfl, rfl⟩
    obtain ⟨a', ca, rfl, la, ba⟩ := i1.shape
    go_wp2_with fail
    obtain ⟨k, hk⟩ : ∃ k : Nat, ((xs.length : Int) / 2) = (k : Int) := ⟨xs.length / 2, by omega⟩
    rw [hk]
    have k1 : k ≤ xs.length := by omega
    have k2 : k ≤ ca := by omega
    have kz : k < xs.length ∨ xs.length = 0 := by omega
    rcases kz with kz | kz
    case' inl =>
      obtain ⟨b1, o1, _, rfl, _⟩ := i1.at kz
      have it := ints_take i1 k k1
      have id := ints_drop i1 k kz
      have k3 : k < ca := by omega
      clear hk
      go_quiet (first | (go_at_call 31; exact S.quiet_same (S.fsum_impl w3.heap.size _ (xs.take k) _ (it.keep (S.below_drewN _ _ _) (Nat.le_refl _)))) | (go_at_call 31; exact S.quiet_same (S.fsum_impl w3.heap.size _ (xs.drop k) _ (id.keep (S.below_drewN _ _ _) (Nat.le_refl _)))))
      have sp := fsum_split xs k
      have bp := fsum_bd (xs.take k)
      have bq := fsum_bd (xs.drop k)
      generalize S.fsum (xs.take k) = p at *
      generalize S.fsum (xs.drop k) = q at *
      generalize S.fsum xs = t at *
    case' inr =>
      obtain rfl : xs = [] := List.eq_nil_of_length_eq_zero kz
      obtain rfl : k = 0 := by simpa using k1
      simp only [List.length_nil] at *
      clear hk
      by_cases hc : ca = 0
      case' pos => subst hc
      all_goals go_quiet ((go_at_call 31; exact S.quiet_same (S.fsum_impl w3.heap.size _ [] _ ⟨_, _, rfl, Nat.zero_le _, by omega, by simp, .inl rfl⟩)))
      all_goals
        have sp := fsum_split [] 0
        have bp := fsum_bd []
        simp only [List.take_nil, List.drop_nil] at sp
        generalize S.fsum [] = t at *
    all_goals
      generalize hw4 : w3.drewN _ = w4
      have b4 : Below w.heap.size w w4 := by rw [← hw4]; exact b3.trans (S.below_drewN _ _ _)
      have R4 := hr.keep b4
      clear hw4
    all_goals
      clear i1 b3 R3 be3 b2 R2 be2 be1
      rcases sp with ⟨s0, p0, q0, e⟩ | ⟨s0, p0⟩ | ⟨s0, p0, q0⟩
      · have E := Lib.hid e
        clear e
        go_wp2_with fail
        refine (fadd_impl _ _ w4 (by omega) (by omega) (by omega) (by omega)).mono ?_; rintro e w' ⟨rfl, rfl⟩
        rw [E.out]
        go_wp2_with fail
        refine (drawFDot_any a len cap w4 (R4.mono b4.size)).mono ?_
        rintro e w5 ⟨v, u, xs', ys', rfl, j1, j2, be5⟩
        have b5 := b4.trans (be5.mono b4.size)
        go_wp2_with fail
        refine (S.fdot_impl w5.heap.size _ _ xs' ys' w5 j1 j2).mono ?_; rintro e w6 ⟨rfl, be6⟩
        have b6 := b5.trans (be6.mono b5.size)
        go_wp2_with fail
        refine (S.fdot_impl w5.heap.size _ _ ys' xs' w6 (j2.keep be6 (Nat.le_refl _)) (j1.keep be6 (Nat.le_refl _))).mono ?_; rintro e w7 ⟨rfl, be7⟩
        rw [S.fdot_comm ys' xs']
        have b7 := b6.trans (be7.mono b5.size)
        go_wp2_with fail
        refine (fields_any w7).mono ?_; rintro e w8 ⟨rfl, be8⟩
        have b8 := b7.trans (be8.mono b7.size)
        go_wp2_with fail
        go_ret
        exact ⟨rfl, b8⟩
      · go_wp2_with fail
        refine (drawFDot_any a len cap w4 (R4.mono b4.size)).mono ?_
        rintro e w5 ⟨v, u, xs', ys', rfl, j1, j2, be5⟩
        have b5 := b4.trans (be5.mono b4.size)
        go_wp2_with fail
        refine (S.fdot_impl w5.heap.size _ _ xs' ys' w5 j1 j2).mono ?_; rintro e w6 ⟨rfl, be6⟩
        have b6 := b5.trans (be6.mono b5.size)
        go_wp2_with fail
        refine (S.fdot_impl w5.heap.size _ _ ys' xs' w6 (j2.keep be6 (Nat.le_refl _)) (j1.keep be6 (Nat.le_refl _))).mono ?_; rintro e w7 ⟨rfl, be7⟩
        rw [S.fdot_comm ys' xs']
        have b7 := b6.trans (be7.mono b5.size)
        go_wp2_with fail
        refine (fields_any w7).mono ?_; rintro e w8 ⟨rfl, be8⟩
        have b8 := b7.trans (be8.mono b7.size)
        go_wp2_with fail
        go_ret
        exact ⟨rfl, b8⟩
      · first
          | (exfalso; omega)
          | (go_wp2_with fail
             refine (drawFDot_any a len cap w4 (R4.mono b4.size)).mono ?_
             rintro e w5 ⟨v, u, xs', ys', rfl, j1, j2, be5⟩
             have b5 := b4.trans (be5.mono b4.size)
             go_wp2_with fail
             refine (S.fdot_impl w5.heap.size _ _ xs' ys' w5 j1 j2).mono ?_; rintro e w6 ⟨rfl, be6⟩
             have b6 := b5.trans (be6.mono b5.size)
             go_wp2_with fail
             refine (S.fdot_impl w5.heap.size _ _ ys' xs' w6 (j2.keep be6 (Nat.le_refl _)) (j1.keep be6 (Nat.le_refl _))).mono ?_; rintro e w7 ⟨rfl, be7⟩
             rw [S.fdot_comm ys' xs']
             have b7 := b6.trans (be7.mono b5.size)
             go_wp2_with fail
             refine (fields_any w7).mono ?_; rintro e w8 ⟨rfl, be8⟩
             have b8 := b7.trans (be8.mono b7.size)
             go_wp2_with fail
             go_ret
             exact ⟨rfl, b8⟩)
end Go.Proofs.Ytohngajjmlldjaa
