/- B6: ToInts Nums Value -/
import Derived.Test.YthipgpbapdambaaGreatB1
import Derived.Test.YthipgpbapdambaaGreatB4
set_option linter.unusedVariables false
set_option linter.unusedSimpArgs false
/- Copies of slices of numbers, and their comparison. -/
namespace Go.Proofs.YthipgpbapdambaaGreat.S
open Go.RowKit
set_option linter.unusedVariables false

theorem take_ne {xs ys : List Int} {k : Nat} {x y : Int} (hx : xs[k]? = some x) (hy : ys[k]? = some y) (h : ¬ x = y) : decide (xs = ys) = false := by
 rw [decide_eq_false_iff_not]
 intro e
 rw [e, hy] at hx
 simp at hx
 exact h hx.symm

set_option maxRecDepth 100000 in
set_option maxHeartbeats 1600000 in
theorem eqIntS_any (lim : Nat) (v u : Value) (xs ys : List Int) (w : World) (h1 : Ints lim w v xs) (h2 : Ints lim w u ys) :
  Calls Tryz.prog 12 #[v, u] w fun e w' => e = .returned (.bool (decide (xs = ys))) ∧ Below lim w w' := by
 obtain ⟨a, ca, rfl, la, ba⟩ := h1.shape
 obtain ⟨b, cb, rfl, lb, bb⟩ := h2.shape
 by_cases hl : xs.length = ys.length
 ·have hne : ((xs.length : Int) != (ys.length : Int)) = false := by simp [hl]
  have HL := Lib.hid hl
  clear hl
  go_enter Tryz.func12, Tryz.ntmps12
  go_wp2_with fail
  go_loopw [5] (fun i wr => ∃ k n : Nat, k ≤ xs.length ∧ i = .int .i64 k ∧ wr = w.drewN n ∧ xs.take k = ys.take k) (fun i _ => xs.length - (intOf i).toNat)
  case atStart => exact ⟨0, 0, Nat.zero_le _, rfl, rfl, rfl⟩
  case round =>
   obtain ⟨k, n, hk, rfl, hwr, ht⟩ := hrel
   have HT := Lib.hid ht
   clear ht
   have be : Below lim w wr := by rw [hwr]; exact below_drewN _ _ _
   by_cases hlt : k < xs.length
   ·have hlt2 : k < ys.length := by rw [← HL.out]; exact hlt
    obtain ⟨b1, o1, x, rfl, l1, c1, e1, _⟩ := (h1.keep be (Nat.le_refl _)).at hlt
    obtain ⟨b2, o2, y, rfl, l2, c2, e2, _⟩ := (h2.keep be (Nat.le_refl _)).at hlt2
    by_cases hxy : x = y
    ·have hb : (x != y) = false := by simp [hxy]
     have HR : Hid (xs.take (k + 1) = ys.take (k + 1)) := Lib.hid (by rw [take_step e1, take_step e2, HT.out, hxy])
     have HW := Lib.hid hwr
     clear hxy hwr e1 e2
     go_wp2_with fail
     go_region
     go_wp2_with fail
     go_roundw
     case rel => exact ⟨k + 1, n + 1, by omega, by go_num, by rw [HW.out]; rfl, HR.out⟩
     case measure => simp [intOf]; omega
    ·have hb : (x != y) = true := by simp [hxy]
     have HF := Lib.hid (take_ne e1 e2 hxy)
     clear hwr e1 e2
     go_wp2_with fail
     go_region
     go_wp2_with fail
     go_ret
     exact ⟨ret_bool HF.out.symm, be.drew⟩
   ·have HF : Hid (decide (xs = ys) = true) := Lib.hid (by
     rw [decide_eq_true_iff]
     have := HT.out
     have h2 := HL.out
     rwa [take_end hlt, take_end (by omega)] at this)
    clear hwr
    go_wp2_with fail
    go_ret
    exact ⟨ret_bool HF.out.symm, be⟩
 ·have hne : ((xs.length : Int) != (ys.length : Int)) = true := by simp; omega
  have HF : Hid (decide (xs = ys) = false) := Lib.hid (by rw [decide_eq_false_iff_not]; intro e; exact hl (by rw [e]))
  clear hl
  go_enter Tryz.func12, Tryz.ntmps12
  go_wp2_with fail
  go_ret
  exact ⟨ret_bool HF.out.symm, Below.refl _ _⟩

theorem intInfo : (Tryz.prog.info? 3).map (fun i => (i.zero, i.size, i.bytes)) = some (some (.int .i64 0), 1, 8) := by kernel_rfl

/-- The copy's cells behind k rounds. -/
def part (xs : List Int) (k : Nat) : List Value := (xs.take k).map (Value.int .i64) ++ List.replicate (xs.length - k) (.int .i64 0)

theorem part_zero (xs : List Int) : part xs 0 = List.replicate xs.length (.int .i64 0) := by simp [part]
theorem part_end (xs : List Int) : part xs xs.length = xs.map (Value.int .i64) := by simp [part]
theorem part_at (xs : List Int) (k : Nat) (h : k < xs.length) : (part xs k)[k]? = some (.int .i64 0) := by
 unfold part
 have hl : ((xs.take k).map (Value.int .i64)).length = k := by simp; omega
 rw [List.getElem?_append_right (by omega), hl, Nat.sub_self, List.getElem?_replicate, if_pos (by omega)]
theorem part_set (xs : List Int) (k : Nat) (x : Int) (h : xs[k]? = some x) : (part xs k).set k (.int .i64 x) = part xs (k + 1) := by
 have hk : k < xs.length := (List.getElem?_eq_some_iff.1 h).1
 unfold part
 rw [take_step h, List.set_append_right _ _ (by simp; omega)]
 simp only [List.length_map, List.length_take, Nat.min_eq_left (Nat.le_of_lt hk), Nat.sub_self, List.map_append, List.append_assoc]
 rw [show xs.length - k = (xs.length - (k + 1)) + 1 from by omega, List.replicate_succ, List.set_cons_zero]
 rfl

set_option maxRecDepth 100000 in
set_option maxHeartbeats 1600000 in
/-- A copy lies in a new block. -/
theorem toIntS_any (lim : Nat) (v : Value) (xs : List Int) (w : World) (h1 : Ints lim w v xs) (hlim : lim ≤ w.heap.size) (hlen : xs.length ≤ 35184372088832) :
  Calls Tryz.prog 10 #[v] w fun e w' => ∃ u, e = .returned u ∧ Below w.heap.size w w' ∧ Ints w'.heap.size w' u xs := by
 obtain ⟨a, ca, rfl, la, ba⟩ := h1.shape
 obtain ⟨i0, hi, hz0, hz1, hz2⟩ := info_parts intInfo
 have h3 : ∀ x ∈ xs, Fits x := by obtain ⟨_, _, _, _, _, h, _⟩ := h1; exact h
 have H3 := Lib.hid h3
 clear h3
 go_enter Tryz.func10, Tryz.ntmps10
 go_wp2_with (refine wpList_make_full _ rfl _ _ 27 rfl w.heap.size 3 i0 (.int .i64 0) 1 Tryz.underlying27 hi hz0 hz1 .i64 .i64 _ _ xs.length rfl rfl rfl rfl (by rw [hz2]; omega) (by unfold maxLen; omega) (Nat.le_refl _) ?_; intro w1 hown hgr)
 have be1 : Below w.heap.size w w1 := (Below.refl _ _).grown hgr (Nat.le_refl _) (fun k e => by simp at e)
 have hown1 : w1.ownsRow w.heap.size 3 1 (Value.slice (some ⟨w.heap.size, 0, none⟩) xs.length xs.length) xs.length (part xs 0) := by
  rw [part_zero, Nat.mul_one] at *
  have e := toList_madeCells_one (Value.int .i64 0) xs.length
  rw [← e]
  exact hown
 clear hown hgr hi hz0 hz1 hz2
 go_loopw [4] (fun i wr => ∃ k : Nat, k ≤ xs.length ∧ i = .int .i64 k ∧ Below w.heap.size w wr ∧ wr.ownsRow w.heap.size 3 1 (Value.slice (some ⟨w.heap.size, 0, none⟩) xs.length xs.length) xs.length (part xs k)) (fun i _ => xs.length - (intOf i).toNat)
 case atStart => exact ⟨0, Nat.zero_le _, rfl, be1, hown1⟩
 case round =>
  obtain ⟨k, hk, rfl, be, hown⟩ := hrel
  by_cases hlt : k < xs.length
  ·obtain ⟨b, off, x, rfl, l1, c1, e1, _⟩ := (h1.keep be hlim).at hlt
   have cw : wr.cell? ⟨w.heap.size, k, none⟩ = some (.int .i64 0) := (hown.cellAt k (by omega)).trans (part_at xs k hlt)
   have fw : wr.frozen? ⟨w.heap.size, k, none⟩ = false := hown.frozenAt k
   have st := (hown.stored k (.int .i64 x)).1
   rw [part_set xs k x e1] at st
   have be' : Below w.heap.size w (wr.setCell ⟨w.heap.size, k, none⟩ (.int .i64 x)) := be.setCell (Nat.le_refl _) _
   clear hown e1 be be1 hown1
   go_wp2_with fail
   go_roundw
   case rel => exact ⟨k + 1, by omega, by go_num, be', st⟩
   case measure => simp [intOf]; omega
  ·obtain rfl : k = xs.length := by omega
   rw [part_end] at hown
   have fin : Ints wr.heap.size wr (Value.slice (some ⟨w.heap.size, 0, none⟩) xs.length xs.length) xs := by
    refine ⟨_, _, rfl, Nat.le_refl _, by omega, H3.out, ?_⟩
    by_cases h0 : xs = []
    ·exact .inl h0
    ·refine .inr ⟨w.heap.size, 0, rfl, (World.ownsRow.lt hown _ rfl).2, fun j x hx => ?_⟩
     have hj : j < xs.length := (List.getElem?_eq_some_iff.1 hx).1
     rw [Nat.zero_add, hown.cellAt j (by omega), List.getElem?_map, hx]
     rfl
   clear hown
   go_wp2_with fail
   go_ret
   exact ⟨_, rfl, be, fin⟩
end Go.Proofs.YthipgpbapdambaaGreat.S

/- Slices of numbers that a call has made: what they read as, comparison, marks; the variables of a combination. -/
namespace Go.Proofs.YthipgpbapdambaaGreat.L
open Go.RowKit Go.Proofs.YthipgpbapdambaaGreat.S
set_option linter.unusedVariables false
set_option linter.unusedSimpArgs false

/-- The slice v reads as the numbers xs, its row in a block from lo on and below hi; own: the row may be written. -/
def Nums (own : Bool) (lo hi : Nat) (w : World) (v : Value) (xs : List Int) : Prop :=
 ∃ a cap, v = .slice a xs.length cap ∧ xs.length ≤ cap ∧ cap ≤ 9223372036854775807 ∧ (∀ x ∈ xs, Fits x) ∧
  (xs = [] ∨ ∃ b off, a = some ⟨b, off, none⟩ ∧ lo ≤ b ∧ b < hi ∧ (own = true → ∀ j, w.frozen? ⟨b, j, none⟩ = false) ∧
   ∀ j x, xs[j]? = some x → w.cell? ⟨b, off + j, none⟩ = some (.int .i64 x))

theorem Nums.only {own : Bool} {lo hi l h : Nat} {w w' : World} {v : Value} {ts : List Int} (ht : Nums own l h w v ts) (ho : Only lo hi w w') (hd : h ≤ lo ∨ hi ≤ l) (hs : h ≤ w.heap.size) : Nums own l h w' v ts := by
 obtain ⟨a, cap, rfl, h1, h2, h3, h4⟩ := ht
 refine ⟨a, cap, rfl, h1, h2, h3, ?_⟩
 rcases h4 with h4 | ⟨b, off, e, hl, hlt, hf, hc⟩
 ·exact .inl h4
 ·have hb : b < w.heap.size := Nat.lt_of_lt_of_le hlt hs
  have hx : b < lo ∨ hi ≤ b := by omega
  exact .inr ⟨b, off, e, hl, hlt, fun hw j => by rw [ho.frozen hb hx]; exact hf hw j, fun j t hj => by rw [ho.cell hb hx]; exact hc j t hj⟩
theorem Nums.keep {own : Bool} {l h B : Nat} {w w' : World} {v : Value} {ts : List Int} (ht : Nums own l h w v ts) (hb : Below B w w') (hl : h ≤ B) : Nums own l h w' v ts := by
 obtain ⟨a, cap, rfl, h1, h2, h3, h4⟩ := ht
 refine ⟨a, cap, rfl, h1, h2, h3, ?_⟩
 rcases h4 with h4 | ⟨b, off, e, hlo, hlt, hf, hc⟩
 ·exact .inl h4
 ·have hx : b < B := Nat.lt_of_lt_of_le hlt hl
  exact .inr ⟨b, off, e, hlo, hlt, fun hw j => by rw [hb.frozen (p := ⟨b, j, none⟩) hx]; exact hf hw j, fun j t hj => by rw [hb.cell (p := ⟨b, off + j, none⟩) hx]; exact hc j t hj⟩
theorem Nums.nil (own : Bool) (l h : Nat) (w : World) : Nums own l h w (.slice none 0 0) [] := ⟨none, 0, rfl, Nat.le_refl _, by omega, by simp, .inl rfl⟩
theorem Nums.shape {own : Bool} {l h : Nat} {w : World} {v : Value} {ts : List Int} (ht : Nums own l h w v ts) : ∃ a cap, v = .slice a ts.length cap ∧ ts.length ≤ cap ∧ cap ≤ 9223372036854775807 := by
 obtain ⟨a, cap, e, h1, h2, _⟩ := ht
 exact ⟨a, cap, e, h1, h2⟩
theorem Nums.ints {own : Bool} {l h : Nat} {w : World} {v : Value} {ts : List Int} (ht : Nums own l h w v ts) : Ints h w v ts := by
 obtain ⟨a, cap, rfl, h1, h2, h3, h4⟩ := ht
 refine ⟨a, cap, rfl, h1, h2, h3, ?_⟩
 rcases h4 with h4 | ⟨b, off, e, hl, hlt, _, hc⟩
 ·exact .inl h4
 ·exact .inr ⟨b, off, e, hlt, hc⟩
theorem Nums.at {own : Bool} {l h : Nat} {w : World} {a : Option Addr} {len cap : Nat} {ts : List Int} (ht : Nums own l h w (.slice a len cap) ts) {k : Nat} (hk : k < ts.length) :
  ∃ b off x, a = some ⟨b, off, none⟩ ∧ w.cell? ⟨b, off + k, none⟩ = some (.int .i64 x) ∧ ts[k]? = some x ∧ Fits x := by
 obtain ⟨b, off, x, e, _, c, hx, fx⟩ := ht.ints.at hk
 exact ⟨b, off, x, e, c, hx, fx⟩
theorem Nums.own {w : World} {base : Nat} {v : Value} {ts : List Int} (h : w.ownsRow base 3 1 v ts.length (ts.map (Value.int .i64))) (hf : ∀ t ∈ ts, Fits t) : Nums true base w.heap.size w v ts := by
 rcases h.2 with ⟨rfl, h0⟩ | ⟨g, cap, cur, rfl, hb, hg, hc, hcm, hs, ht⟩
 ·have : ts = [] := List.eq_nil_of_length_eq_zero h0
  subst this
  exact Nums.nil _ _ _ _
 ·refine ⟨some ⟨g, 0, none⟩, cap, rfl, hc, by unfold maxLen at hcm; omega, hf, ?_⟩
  refine .inr ⟨g, 0, rfl, hb, (h.lt g rfl).2, fun _ j => h.frozenAt j, fun j t hj => ?_⟩
  have hjl : j < ts.length := (List.getElem?_eq_some_iff.1 hj).1
  rw [Nat.zero_add, h.cellAt j (by omega), List.getElem?_map, hj]
  rfl

theorem eqNums_any (o1 o2 : Bool) (l1 h1 l2 h2 : Nat) (v u : Value) (ts us : List Int) (w : World) (t1 : Nums o1 l1 h1 w v ts) (t2 : Nums o2 l2 h2 w u us) (hw1 : h1 ≤ w.heap.size) (hw2 : h2 ≤ w.heap.size) :
  Calls Tryz.prog 12 #[v, u] w fun e w' => e = .returned (.bool (decide (ts = us))) ∧ Below w.heap.size w w' :=
 eqIntS_any w.heap.size v u ts us w (t1.ints.mono hw1) (t2.ints.mono hw2)
theorem eqInts_any (h1 h2 : Nat) (v u : Value) (ts us : List Int) (w : World) (t1 : Ints h1 w v ts) (t2 : Ints h2 w u us) (hw1 : h1 ≤ w.heap.size) (hw2 : h2 ≤ w.heap.size) :
  Calls Tryz.prog 12 #[v, u] w fun e w' => e = .returned (.bool (decide (ts = us))) ∧ Below w.heap.size w w' :=
 eqIntS_any w.heap.size v u ts us w (t1.mono hw1) (t2.mono hw2)

def marksN : Nat → Nat → List Int
 | _, 0 => []
 | k, n + 1 => (k : Int) :: marksN (k + 1) n
theorem marksN_length (k n : Nat) : (marksN k n).length = n := by
 induction n generalizing k with
 | zero => rfl
 | succ n ih => simp [marksN, ih]
theorem marksN_at (k n j : Nat) (h : j < n) : (marksN k n)[j]? = some ((k + j : Nat) : Int) := by
 induction n generalizing k j with
 | zero => omega
 | succ n ih =>
  cases j with
  | zero => simp [marksN]
  | succ j =>
   simp only [marksN, List.getElem?_cons_succ]
   rw [ih (k + 1) j (by omega), show k + 1 + j = k + (j + 1) from by omega]
def markedN (ts : List Int) (k j : Nat) : List Int := marksN k j ++ ts.drop j
theorem markedN_length (ts : List Int) (k j : Nat) (h : j ≤ ts.length) : (markedN ts k j).length = ts.length := by unfold markedN; simp [marksN_length]; omega
theorem marksN_snoc (k n : Nat) : marksN k (n + 1) = marksN k n ++ [((k + n : Nat) : Int)] := by
 apply List.ext_getElem?
 intro j
 by_cases h : j < n
 ·rw [marksN_at _ _ _ (by omega), List.getElem?_append_left (by rw [marksN_length]; exact h), marksN_at _ _ _ h]
 ·by_cases h2 : j = n
  ·subst h2
   rw [marksN_at _ _ _ (by omega), List.getElem?_append_right (by rw [marksN_length]; omega), marksN_length, Nat.sub_self]
   rfl
  ·rw [List.getElem?_eq_none (by rw [marksN_length]; omega), List.getElem?_eq_none (by simp [marksN_length]; omega)]
theorem markedN_set (ts : List Int) (k j : Nat) (h : j < ts.length) : (markedN ts k j).set j ((k + j : Nat) : Int) = markedN ts k (j + 1) := by
 unfold markedN
 rw [marksN_snoc, List.set_append_right _ _ (by rw [marksN_length]; exact Nat.le_refl _), marksN_length, Nat.sub_self, List.drop_eq_getElem_cons h, List.set_cons_zero]
 simp
theorem Nums.put {l h : Nat} {w : World} {b off n cap : Nat} {ts : List Int} (ht : Nums true l h w (.slice (some ⟨b, off, none⟩) n cap) ts) {k : Nat} (hk : k < ts.length) (x : Int) (fx : Fits x) :
  Nums true l h (w.setCell ⟨b, off + k, none⟩ (.int .i64 x)) (.slice (some ⟨b, off, none⟩) n cap) (ts.set k x) := by
 obtain ⟨a', cap', e0, h1, h2, h3, h4⟩ := ht
 simp only [Value.slice.injEq] at e0
 obtain ⟨rfl, rfl, rfl⟩ := e0
 have hfit : ∀ t ∈ ts.set k x, Fits t := by
  intro t hm
  rcases List.mem_or_eq_of_mem_set hm with hm | rfl
  ·exact h3 t hm
  ·exact fx
 rcases h4 with h4 | ⟨b', off', e, hl, hlt, hf, hc⟩
 ·rw [h4] at hk; simp at hk
 ·simp only [Option.some.injEq, Addr.mk.injEq, and_true] at e
  obtain ⟨rfl, rfl⟩ := e
  have c0 := hc k _ (List.getElem?_eq_getElem hk)
  refine ⟨some ⟨b, off, none⟩, cap, by simp, by simpa using h1, h2, hfit, .inr ⟨b, off, rfl, hl, hlt, fun _ j => ?_, fun j t hj => ?_⟩⟩
  ·rw [World.frozen?_setCell]; exact hf rfl j
  ·by_cases hjk : j = k
   ·subst hjk
    rw [List.getElem?_set_self hk] at hj
    simp only [Option.some.injEq] at hj
    subst hj
    exact World.cell?_setCell_same _ _ _ c0
   ·rw [List.getElem?_set_ne (by omega)] at hj
    rw [World.cell?_setCell_other _ _ _ _ (by simp <;> omega)]; exact hc j t hj

set_option maxRecDepth 100000 in
set_option maxHeartbeats 1600000 in
theorem markNums_any (l h : Nat) (v : Value) (ts : List Int) (m : Nat) (w : World) (h1 : Nums true l h w v ts) (hw : h ≤ w.heap.size) (hlen : ts.length ≤ 4194304) (hm : m ≤ 16777216) :
  Calls Tryz.prog 15 #[v, .int .i64 m] w fun e w' => e = .returned (.int .i64 ((m + ts.length : Nat) : Int)) ∧ Only l h w w' ∧ Nums true l h w' v (marksN m ts.length) := by
 obtain ⟨a, ca, rfl, la, ba⟩ := h1.shape
 go_enter Tryz.func15, Tryz.ntmps15
 go_wp2_with fail
 go_loopw [1, 5] (fun n i wr => ∃ j : Nat, j ≤ ts.length ∧ i = .int .i64 j ∧ n = .int .i64 ((m + j : Nat) : Int) ∧ Only l h w wr ∧ Nums true l h wr (.slice a ts.length ca) (markedN ts m j)) (fun _ i _ => ts.length - (intOf i).toNat)
 case atStart => exact ⟨0, Nat.zero_le _, rfl, rfl, Only.refl _ _ _, h1⟩
 case round =>
  obtain ⟨j, hj, rfl, rfl, on, ht⟩ := hrel
  have hml := markedN_length ts m j hj
  by_cases hlt : j < ts.length
  ·obtain ⟨a', cap', e0, q1, q2, q3, q4⟩ := id ht
   simp only [Value.slice.injEq] at e0
   obtain ⟨rfl, _, rfl⟩ := e0
   rcases q4 with q4 | ⟨b, off, rfl, r1, r2, r3, r4⟩
   ·rw [q4] at hml; simp at hml; omega
   have hlt2 : j < (markedN ts m j).length := by omega
   have put := ht.put hlt2 ((m + j : Nat) : Int) (by unfold Fits; omega)
   rw [markedN_set ts m j hlt] at put
   have c0 := r4 j _ (List.getElem?_eq_getElem hlt2)
   have fz := r3 rfl (off + j)
   have on' := on.setCell (p := ⟨b, off + j, none⟩) r1 r2 (.int .i64 ((m + j : Nat) : Int))
   clear ht q3 r4 r3 hml h1 on
   obtain ⟨q, hq⟩ : ∃ q : Int, q = ((m + j : Nat) : Int) := ⟨_, rfl⟩
   rw [← hq] at put on' ⊢
   have q0 : 0 ≤ q := by omega
   have q1 : q ≤ 100000000 := by omega
   have HQ := Lib.hid hq
   clear hq
   go_wp2_with fail
   go_roundw
   case rel => exact ⟨j + 1, by omega, by go_num, by rw [HQ.out]; go_num, on', put⟩
   case measure => simp [intOf]; omega
  ·obtain rfl : j = ts.length := by omega
   have e : markedN ts m ts.length = marksN m ts.length := by simp [markedN]
   rw [e] at ht
   go_wp2_with fail
   go_ret
   exact ⟨rfl, on, ht⟩

set_option maxRecDepth 100000 in
set_option maxHeartbeats 1600000 in
theorem heldNums_any (own : Bool) (l h : Nat) (v : Value) (n m : Nat) (w : World) (h1 : Nums own l h w v (marksN m n)) (hw : h ≤ w.heap.size) (hlen : n ≤ 4194304) (hm : m ≤ 16777216) :
  Calls Tryz.prog 16 #[v, .int .i64 m] w fun e w' => e = .returned (.int .i64 ((m + n : Nat) : Int)) ∧ Below w.heap.size w w' := by
 obtain ⟨a, ca, rfl, la, ba⟩ := h1.shape
 have hl := marksN_length m n
 rw [hl] at la h1 ⊢
 go_enter Tryz.func16, Tryz.ntmps16
 go_wp2_with fail
 go_loop [1, 5] (fun q i => ∃ j : Nat, j ≤ n ∧ i = .int .i64 j ∧ q = .int .i64 ((m + j : Nat) : Int)) (fun _ i => n - (intOf i).toNat)
 case atStart => exact ⟨0, Nat.zero_le _, rfl, rfl⟩
 case round =>
  obtain ⟨j, hj, rfl, rfl⟩ := hrel
  by_cases hlt : j < n
  ·obtain ⟨b, off, x, rfl, c1, e1, _⟩ := h1.at (k := j) (by omega)
   rw [marksN_at m n j hlt] at e1
   simp only [Option.some.injEq] at e1
   subst e1
   clear hl
   obtain ⟨q, hq⟩ : ∃ q : Int, q = ((m + j : Nat) : Int) := ⟨_, rfl⟩
   rw [← hq] at c1 ⊢
   have q0 : 0 ≤ q := by omega
   have q1 : q ≤ 100000000 := by omega
   have HQ := Lib.hid hq
   clear hq
   go_wp2_with fail
   go_round
   case rel => exact ⟨j + 1, by omega, by go_num, by rw [HQ.out]; go_num⟩
   case measure => simp [intOf]; omega
  ·obtain rfl : j = n := by omega
   clear hl
   go_wp2_with fail
   go_ret
   exact ⟨rfl, Below.refl _ _⟩
end Go.Proofs.YthipgpbapdambaaGreat.L

/- The value of a combination for an assignment: the program's function and its model. -/
namespace Go.Proofs.YthipgpbapdambaaGreat.L
open Go.RowKit Go.Proofs.YthipgpbapdambaaGreat.S
set_option linter.unusedVariables false
set_option linter.unusedSimpArgs false

def fl (x : Int) : Prop := 0 ≤ x ∧ x < 2147483647
instance (x : Int) : Decidable (fl x) := by unfold fl; infer_instance
/-- An assignment: 1 to 3000 numbers of the field, the first of which is 1. -/
def isAsg (xs : List Int) : Bool := decide (1 ≤ xs.length ∧ xs.length ≤ 3000 ∧ xs[0]? = some 1 ∧ ∀ x ∈ xs, fl x)
/-- The value of the terms. -/
def term (xs : List Int) (t : T) : Int := t.2 * (xs[t.1.toNat]?.getD 0)
def lval (xs : List Int) (ts : List T) : Int := (ts.map (term xs)).sum % 2147483647
/-- All variables have values. -/
def within (n : Nat) (ts : List T) : Bool := decide (∀ t ∈ ts, t.1 < (n : Int))
def valOk (ts : List T) (xs : List Int) : Bool := linOk ts && (isAsg xs && within xs.length ts)
def val (ts : List T) (xs : List Int) : Int := if valOk ts xs = true then lval xs ts else 0

theorem lval_bd (xs : List Int) (ts : List T) : 0 ≤ lval xs ts ∧ lval xs ts < 2147483647 := by unfold lval; omega
theorem lval_nil (xs : List Int) : lval xs [] = 0 := rfl
theorem lval_step {xs : List Int} {ts : List T} {k : Nat} {x y z : Int} (h : ts[k]? = some (x, y)) (hz : xs[x.toNat]? = some z) : lval xs (ts.take (k + 1)) = (lval xs (ts.take k) + y * z % 2147483647) % 2147483647 := by
 unfold lval
 rw [take_step h, List.map_append, List.sum_append]
 simp [term, hz]

theorem quiet_eq {P : Program} {f : FuncId} {args : Array Value} {w : World} {n : Nat} {v : Value}
  (h : Calls P f args (w.drewN n) fun e w' => e = .returned v ∧ w.drewN n = w') : Calls P f args (w.drewN n) fun e w'' => e = .returned v ∧ ∃ m, w'' = w.drewN m :=
 Calls.quiet_of_same (h.mono fun _ _ h => ⟨h.1, h.2.symm⟩)
theorem fok_yes_spec (n : Int) (w : World) (h0 : 0 ≤ n) (h1 : n < 2147483647) : Calls Tryz.prog 37 #[.int .i64 n] w fun e w' => e = .returned (.bool true) ∧ w = w' :=
 (fok_spec n w).mono fun e w' ⟨he, hw⟩ => ⟨by rw [he]; exact S.ret_bool (by simp; omega), hw⟩
theorem fok_no_spec (n : Int) (w : World) (h : n < 0 ∨ 2147483647 ≤ n) : Calls Tryz.prog 37 #[.int .i64 n] w fun e w' => e = .returned (.bool false) ∧ w = w' :=
 (fok_spec n w).mono fun e w' ⟨he, hw⟩ => ⟨by rw [he]; exact S.ret_bool (by simp; omega), hw⟩
theorem okFrom_last : ∀ {ts : List T} {p : Int} {l : T}, okFrom p ts = true → ts.getLast? = some l → ∀ t ∈ ts, t.1 ≤ l.1
 | [], _, _, _, hl, t, ht => by simp at ht
 | [u], _, l, _, hl, t, ht => by
  simp at hl ht; subst hl; subst ht; exact Int.le_refl _
 | u :: v :: us, p, l, h, hl, t, ht => by
  obtain ⟨⟨h0, h1, h2, h3⟩, h4⟩ := okFrom_cons h
  have hl' : (v :: us).getLast? = some l := by simpa [List.getLast?_cons_cons] using hl
  have ih := okFrom_last h4 hl'
  rcases List.mem_cons.1 ht with rfl | ht
  ·have := (okFrom_mem h4 v (List.mem_cons_self)).1
   have := ih v List.mem_cons_self
   omega
  ·exact ih t ht
theorem within_last {ts : List T} (h : linOk ts = true) {x y : Int} {n : Nat} (hl : ts[ts.length - 1]? = some (x, y)) : within n ts = decide (x < (n : Int)) := by
 have hg : ts.getLast? = some (x, y) := by rw [List.getLast?_eq_getElem?]; exact hl
 have hle := okFrom_last h hg
 unfold within
 rw [decide_eq_decide]
 refine ⟨fun hh => hh (x, y) (List.mem_of_getLast? hg), fun hx t ht => ?_⟩
 have := hle t ht
 simp only at this
 omega

set_option maxRecDepth 100000 in
set_option maxHeartbeats 1600000 in
theorem asg_impl (lim : Nat) (v : Value) (xs : List Int) (w : World) (h1 : Ints lim w v xs) :
  Calls Tryz.prog 44 #[v] w fun e w' => e = .returned (.bool (isAsg xs)) ∧ w = w' := by
 obtain ⟨a, ca, rfl, la, ba⟩ := h1.shape
 by_cases hn : 1 ≤ xs.length
 case' neg =>
  have HR := Lib.hid (show isAsg xs = false from decide_eq_false (fun h => hn h.1))
  obtain rfl : xs = [] := List.eq_nil_of_length_eq_zero (by omega)
  go_enter Tryz.func44, Tryz.ntmps44
  go_wp2_with fail
  go_ret
  exact ⟨ret_bool HR.out.symm, rfl⟩
 by_cases hm : xs.length ≤ 3000
 case' neg =>
  have HR := Lib.hid (show isAsg xs = false from decide_eq_false (fun h => hm h.2.1))
  go_enter Tryz.func44, Tryz.ntmps44
  go_wp2_with fail
  go_ret
  exact ⟨ret_bool HR.out.symm, rfl⟩
 obtain ⟨b0, f0, x0, rfl, l0, c0, e0, _⟩ := h1.at (k := 0) (by omega)
 rw [Nat.add_zero] at c0
 by_cases hx0 : x0 = 1
 case' neg =>
  have HR := Lib.hid (show isAsg xs = false from decide_eq_false (fun h => hx0 (by have := h.2.2.1; rw [e0] at this; simpa using this)))
  have hb : (x0 != 1) = true := by simp [hx0]
  clear hx0 e0
  go_enter Tryz.func44, Tryz.ntmps44
  go_wp2_with fail
  go_ret
  exact ⟨ret_bool HR.out.symm, rfl⟩
 subst hx0
 have HE := Lib.hid e0
 clear e0
 go_enter Tryz.func44, Tryz.ntmps44
 go_wp2_with fail
 go_loop [21] (fun i => ∃ k : Nat, k ≤ xs.length ∧ i = .int .i64 k ∧ ∀ x ∈ xs.take k, fl x) (fun i => xs.length - (intOf i).toNat)
 case atStart => exact ⟨0, Nat.zero_le _, rfl, by simp⟩
 case round =>
  obtain ⟨k, hk, rfl, hf⟩ := hrel
  by_cases hlt : k < xs.length
  ·obtain ⟨b, off, x, e', l1, c1, e1, _⟩ := h1.at hlt
   simp only [Option.some.injEq, Addr.mk.injEq, and_true] at e'
   obtain ⟨rfl, rfl⟩ := e'
   by_cases hfx : fl x
   ·have HF : Hid (∀ y ∈ xs.take (k + 1), fl y) := Lib.hid (fun y hy => by
     rw [take_step e1] at hy
     rcases List.mem_append.1 hy with hy | hy
     ·exact hf y hy
     ·simp at hy; rw [hy]; exact hfx)
    obtain ⟨g0, g1⟩ := hfx
    clear hf e1
    go_wp2_with (go_at_call 90; refine (L.fok_yes x _ g0 g1).mono ?_; rintro e w' ⟨rfl, rfl⟩)
    go_round
    case rel => exact ⟨k + 1, by omega, by go_num, HF.out⟩
    case measure => simp [intOf]; omega
   ·have HR := Lib.hid (show isAsg xs = false from decide_eq_false (fun h => hfx (h.2.2.2 x (List.mem_of_getElem? e1))))
    have hg : x < 0 ∨ 2147483647 ≤ x := by unfold fl at hfx; omega
    clear hf e1 hfx
    go_wp2_with (go_at_call 90; refine (L.fok_no x _ hg).mono ?_; rintro e w' ⟨rfl, rfl⟩)
    go_ret
    exact ⟨ret_bool HR.out.symm, rfl⟩
  ·rw [take_end hlt] at hf
   have HR := Lib.hid (show isAsg xs = true from decide_eq_true ⟨hn, hm, HE.out, hf⟩)
   clear hf
   go_wp2_with fail
   go_ret
   exact ⟨ret_bool HR.out.symm, rfl⟩
set_option maxRecDepth 100000 in
set_option maxHeartbeats 1600000 in
theorem asg_spec (lim : Nat) (v : Value) (xs : List Int) (w : World) (h1 : Ints lim w v xs) :
  Calls Tryz.prog 65 #[v] w fun e w' => e = .returned (.bool (isAsg xs)) ∧ w = w' := by
 obtain ⟨a, ca, rfl, la, ba⟩ := h1.shape
 by_cases hn : 1 ≤ xs.length
 case' neg =>
  have HR := Lib.hid (show isAsg xs = false from decide_eq_false (fun h => hn h.1))
  obtain rfl : xs = [] := List.eq_nil_of_length_eq_zero (by omega)
  go_enter Tryz.func65, Tryz.ntmps65
  go_wp2_with fail
  go_ret
  exact ⟨ret_bool HR.out.symm, rfl⟩
 by_cases hm : xs.length ≤ 3000
 case' neg =>
  have HR := Lib.hid (show isAsg xs = false from decide_eq_false (fun h => hm h.2.1))
  go_enter Tryz.func65, Tryz.ntmps65
  go_wp2_with fail
  go_ret
  exact ⟨ret_bool HR.out.symm, rfl⟩
 obtain ⟨b0, f0, x0, rfl, l0, c0, e0, _⟩ := h1.at (k := 0) (by omega)
 rw [Nat.add_zero] at c0
 by_cases hx0 : x0 = 1
 case' neg =>
  have HR := Lib.hid (show isAsg xs = false from decide_eq_false (fun h => hx0 (by have := h.2.2.1; rw [e0] at this; simpa using this)))
  have hb : (x0 != 1) = true := by simp [hx0]
  clear hx0 e0
  go_enter Tryz.func65, Tryz.ntmps65
  go_wp2_with fail
  go_ret
  exact ⟨ret_bool HR.out.symm, rfl⟩
 subst hx0
 have HE := Lib.hid e0
 clear e0
 go_enter Tryz.func65, Tryz.ntmps65
 go_wp2_with fail
 go_loop [3] (fun i => ∃ k : Nat, k ≤ xs.length ∧ i = .int .i64 k ∧ ∀ x ∈ xs.take k, fl x) (fun i => xs.length - (intOf i).toNat)
 case atStart => exact ⟨0, Nat.zero_le _, rfl, by simp⟩
 case round =>
  obtain ⟨k, hk, rfl, hf⟩ := hrel
  by_cases hlt : k < xs.length
  ·obtain ⟨b, off, x, e', l1, c1, e1, _⟩ := h1.at hlt
   simp only [Option.some.injEq, Addr.mk.injEq, and_true] at e'
   obtain ⟨rfl, rfl⟩ := e'
   by_cases hfx : fl x
   ·have HF : Hid (∀ y ∈ xs.take (k + 1), fl y) := Lib.hid (fun y hy => by
     rw [take_step e1] at hy
     rcases List.mem_append.1 hy with hy | hy
     ·exact hf y hy
     ·simp at hy; rw [hy]; exact hfx)
    obtain ⟨g0, g1⟩ := hfx
    clear hf e1
    go_wp2_with (go_at_call 37; refine (fok_yes_spec x _ g0 g1).mono ?_; rintro e w' ⟨rfl, rfl⟩)
    go_round
    case rel => exact ⟨k + 1, by omega, by go_num, HF.out⟩
    case measure => simp [intOf]; omega
   ·have HR := Lib.hid (show isAsg xs = false from decide_eq_false (fun h => hfx (h.2.2.2 x (List.mem_of_getElem? e1))))
    have hg : x < 0 ∨ 2147483647 ≤ x := by unfold fl at hfx; omega
    clear hf e1 hfx
    go_wp2_with (go_at_call 37; refine (fok_no_spec x _ hg).mono ?_; rintro e w' ⟨rfl, rfl⟩)
    go_ret
    exact ⟨ret_bool HR.out.symm, rfl⟩
  ·rw [take_end hlt] at hf
   have HR := Lib.hid (show isAsg xs = true from decide_eq_true ⟨hn, hm, HE.out, hf⟩)
   clear hf
   go_wp2_with fail
   go_ret
   exact ⟨ret_bool HR.out.symm, rfl⟩

set_option maxRecDepth 100000 in
set_option maxHeartbeats 1600000 in
theorem within_any (o1 l1 h1 va ts) (n : Nat) (w : World) (t1 : Terms o1 l1 h1 w va ts) (hw1 : h1 ≤ w.heap.size) (hk : linOk ts = true) (hn : n ≤ 1000000) :
  Calls Tryz.prog 60 #[.agg #[va], .int .i64 n] w fun e w' => e = .returned (.bool (within n ts)) ∧ Below w.heap.size w w' := by
 obtain ⟨a, ca, rfl, la, ba⟩ := t1.shape
 have nl := linOk_length hk
 by_cases h0 : ts.length = 0
 ·obtain rfl : ts = [] := List.eq_nil_of_length_eq_zero h0
  have HR := Lib.hid (show within n [] = true from decide_eq_true (by simp))
  clear h0
  go_enter Tryz.func60, Tryz.ntmps60
  go_wp2_with fail
  go_ret
  exact ⟨ret_bool HR.out.symm, by (repeat (with_reducible first | exact bR _ _ | assumption | refine bD ?_ | refine bN ?_ _ | refine bA ?_ _ | refine bS ?_ _))⟩
 ·obtain ⟨b, off, x, y, rfl, l1', m1, c1, d1, e1, fx, fy⟩ := t1.at (k := ts.length - 1) (by omega)
  have HR := Lib.hid (within_last hk (n := n) e1)
  obtain ⟨j, hj⟩ : ∃ j : Nat, j = ts.length - 1 := ⟨_, rfl⟩
  rw [← hj] at c1
  have hb0 : ((ts.length : Int) == 0) = false := beq_eq_false_iff_ne.2 (by omega)
  have s1 : IntKind.i64.wrap ((ts.length : Int) - 1) = (j : Int) := by rw [IntWalk.i64_in _ (by omega)]; omega
  have s1' : (ts.length : Int) - 1 = (j : Int) := by omega
  have s2 : (j : Int) < (ts.length : Int) := by omega
  have s3 : j < ts.length := by omega
  have hbs : b < w.heap.size := World.block_lt_of_cell? w _ c1
  clear hj e1 d1 h0
  go_enter Tryz.func60, Tryz.ntmps60
  go_wp2_with fail
  go_ret
  exact ⟨ret_bool HR.out.symm, by (repeat (with_reducible first | exact bR _ _ | assumption | refine bD ?_ | refine bN ?_ _ | refine bA ?_ _ | refine bS ?_ _))⟩

theorem linOk_mem_at {ts : List T} (h : linOk ts = true) {k : Nat} {x y : Int} (e : ts[k]? = some (x, y)) : ∃ n : Nat, x = n ∧ 0 ≤ y ∧ y < 2147483647 := by
 have := linOk_at h e
 exact ⟨x.toNat, by simp at this; omega, by simp at this; omega, by simp at this; omega⟩
theorem asg_fits {xs : List Int} (h : isAsg xs = true) : xs.length ≤ 3000 ∧ ∀ x ∈ xs, fl x := by
 have := of_decide_eq_true h
 exact ⟨this.2.1, this.2.2.2⟩

set_option maxRecDepth 100000 in
set_option maxHeartbeats 1600000 in
theorem l2value_any (o1 l1 h1 va ts) (lim : Nat) (v : Value) (xs : List Int) (w : World) (t1 : Terms o1 l1 h1 w va ts) (hw1 : h1 ≤ w.heap.size) (t2 : Ints lim w v xs) (hl : lim ≤ w.heap.size) (hk : linOk ts = true) (ha : isAsg xs = true) (hin : within xs.length ts = true) :
  Calls Tryz.prog 66 #[.agg #[va], v] w fun e w' => e = .returned (.int .i64 (lval xs ts)) ∧ Below w.heap.size w w' := by
 obtain ⟨a, ca, rfl, la, ba⟩ := t1.shape
 obtain ⟨c, cc, rfl, lc, bc⟩ := t2.shape
 have nl := linOk_length hk
 obtain ⟨nx, fx⟩ := asg_fits ha
 have FX := Lib.hid fx
 have IN := Lib.hid (of_decide_eq_true hin)
 clear fx
 go_enter Tryz.func66, Tryz.ntmps66
 go_wp2_with fail
 generalize hW : World.alloc _ _ = W
 have bW : Below w.heap.size w W := by rw [← hW]; (repeat (with_reducible first | exact bR _ _ | assumption | refine bD ?_ | refine bN ?_ _ | refine bA ?_ _ | refine bS ?_ _))
 have zW : w.heap.size + 1 ≤ W.heap.size := by rw [← hW]; simp
 have cA : W.cell? ⟨w.heap.size, 0, none⟩ = some (.slice a ts.length ca) := by rw [← hW]; first | (simp; done) | go_simp
 have t1W := t1.keep bW hw1
 have t2W := t2.keep bW hl
 clear hW
 go_loopw [5, 6] (fun s i wr => ∃ (k n : Nat), k ≤ ts.length ∧ i = .int .i64 k ∧ s = .int .i64 (lval xs (ts.take k)) ∧ wr = W.drewN n) (fun _ i _ => ts.length - (intOf i).toNat)
 case atStart => exact ⟨0, 0, Nat.zero_le _, rfl, rfl, rfl⟩
 case round =>
  obtain ⟨k, n, hkl, rfl, rfl, hwr⟩ := hrel
  have be : Below W.heap.size W wr := by rw [hwr]; (repeat (with_reducible first | exact bR _ _ | assumption | refine bD ?_ | refine bN ?_ _ | refine bA ?_ _ | refine bS ?_ _))
  have cr := cell_keep be cA
  by_cases hlt : k < ts.length
  ·obtain ⟨b, off, x, y, rfl, l1', m1, c1, d1, e1, fx, fy⟩ := (t1W.keep be (by omega)).at hlt
   obtain ⟨m, rfl, y0, y1⟩ := linOk_mem_at hk e1
   have hm : m < xs.length := by have := IN.out (m, y) (List.mem_of_getElem? e1); simp only at this; omega
   obtain ⟨b2, f2, z, rfl, l2', c2, e2, fz⟩ := (t2W.keep be (by omega)).at hm
   obtain ⟨z0, z1⟩ := FX.out z (List.mem_of_getElem? e2)
   have HS := Lib.hid (lval_step (xs := xs) e1 (show xs[(m : Int).toNat]? = some z from e2))
   obtain ⟨s0, s1⟩ := lval_bd xs (ts.take k)
   generalize lval xs (ts.take k) = s at *
   have em := em_bd (y * z)
   have em2 := em_bd (s + y * z % 2147483647)
   have hmi : (m : Int) < (xs.length : Int) := by omega
   have HW := Lib.hid hwr
   clear e1 e2 hwr
   go_wp2_with fail
   go_quiet (first | (go_at_call 77; exact quiet_eq (l1mul_any y z _ y0 y1 z0 z1)) | (go_at_call 103; exact quiet_eq (l1add_any s (y * z % 2147483647) _ s0 s1 em.1 em.2)))
   go_wp2_with fail
   go_roundw
   case rel => exact ⟨k + 1, _, by omega, by go_num, by rw [HS.out], by rw [HW.out, World.drewN_drewN]⟩
   case measure => simp [intOf]; omega
  ·rw [take_end hlt]
   have be2 := bW.trans (be.mono bW.size)
   clear hwr
   go_wp2_with fail
   go_ret
   exact ⟨rfl, be2⟩
end Go.Proofs.YthipgpbapdambaaGreat.L
