/- Slices of truth values: what they read as; copies, comparison, marks. -/
import Derived.Test.YtcinpoeapbgnhaaNumS
namespace Go.Proofs.Ytcinpoeapbgnhaa.L
open Go.RowKit Go.Proofs.Ytcinpoeapbgnhaa.S
set_option linter.unusedVariables false
set_option linter.unusedSimpArgs false

/-- The slice v reads as the truth values xs, its row in a block from lo on and below hi; own: the row may be written. -/
def Bools (own : Bool) (lo hi : Nat) (w : World) (v : Value) (xs : List Bool) : Prop :=
  ∃ a cap, v = .slice a xs.length cap ∧ xs.length ≤ cap ∧ cap ≤ 9223372036854775807 ∧
    (xs = [] ∨ ∃ b off, a = some ⟨b, off, none⟩ ∧ lo ≤ b ∧ b < hi ∧ (own = true → ∀ j, w.frozen? ⟨b, j, none⟩ = false) ∧
      ∀ j x, xs[j]? = some x → w.cell? ⟨b, off + j, none⟩ = some (.bool x))

theorem Bools.only {own : Bool} {lo hi l h : Nat} {w w' : World} {v : Value} {ts : List Bool} (ht : Bools own l h w v ts) (ho : Only lo hi w w') (hd : h ≤ lo ∨ hi ≤ l) (hs : h ≤ w.heap.size) : Bools own l h w' v ts := by
  obtain ⟨a, cap, rfl, h1, h2, h4⟩ := ht
  refine ⟨a, cap, rfl, h1, h2, ?_⟩
  rcases h4 with h4 | ⟨b, off, e, hl, hlt, hf, hc⟩
  · exact .inl h4
  · have hb : b < w.heap.size := Nat.lt_of_lt_of_le hlt hs
    have hx : b < lo ∨ hi ≤ b := by omega
    exact .inr ⟨b, off, e, hl, hlt, fun hw j => by rw [ho.frozen hb hx]; exact hf hw j, fun j t hj => by rw [ho.cell hb hx]; exact hc j t hj⟩
theorem Bools.keep {own : Bool} {l h B : Nat} {w w' : World} {v : Value} {ts : List Bool} (ht : Bools own l h w v ts) (hb : Below B w w') (hl : h ≤ B) : Bools own l h w' v ts := by
  obtain ⟨a, cap, rfl, h1, h2, h4⟩ := ht
  refine ⟨a, cap, rfl, h1, h2, ?_⟩
  rcases h4 with h4 | ⟨b, off, e, hlo, hlt, hf, hc⟩
  · exact .inl h4
  · have hx : b < B := Nat.lt_of_lt_of_le hlt hl
    exact .inr ⟨b, off, e, hlo, hlt, fun hw j => by rw [hb.frozen (p := ⟨b, j, none⟩) hx]; exact hf hw j, fun j t hj => by rw [hb.cell (p := ⟨b, off + j, none⟩) hx]; exact hc j t hj⟩
theorem Bools.agree {own : Bool} {l h : Nat} {w w' : World} {v : Value} {ts : List Bool} (ht : Bools own l h w v ts) (hs : Same l h w w') : Bools own l h w' v ts := by
  obtain ⟨a, cap, rfl, h1, h2, h4⟩ := ht
  refine ⟨a, cap, rfl, h1, h2, ?_⟩
  rcases h4 with h4 | ⟨b, off, e, hl, hlt, hf, hc⟩
  · exact .inl h4
  · exact .inr ⟨b, off, e, hl, hlt, fun hw j => by rw [hs.frozen hl hlt]; exact hf hw j, fun j t hj => by rw [hs.cell hl hlt]; exact hc j t hj⟩
theorem Bools.mono {own : Bool} {l h l' h' : Nat} {w : World} {v : Value} {ts : List Bool} (ht : Bools own l h w v ts) (h1' : l' ≤ l) (h2' : h ≤ h') : Bools own l' h' w v ts := by
  obtain ⟨a, cap, rfl, h1, h2, h4⟩ := ht
  refine ⟨a, cap, rfl, h1, h2, ?_⟩
  rcases h4 with h4 | ⟨b, off, e, hl, hlt, hf, hc⟩
  · exact .inl h4
  · exact .inr ⟨b, off, e, by omega, by omega, hf, hc⟩
theorem Bools.unown {own : Bool} {l h : Nat} {w : World} {v : Value} {ts : List Bool} (ht : Bools own l h w v ts) : Bools false l h w v ts := by
  obtain ⟨a, cap, rfl, h1, h2, h4⟩ := ht
  refine ⟨a, cap, rfl, h1, h2, ?_⟩
  rcases h4 with h4 | ⟨b, off, e, hl, hlt, hf, hc⟩
  · exact .inl h4
  · exact .inr ⟨b, off, e, hl, hlt, (fun h => by cases h), hc⟩
theorem Bools.nil (own : Bool) (l h : Nat) (w : World) : Bools own l h w (.slice none 0 0) [] := ⟨none, 0, rfl, Nat.le_refl _, by omega, .inl rfl⟩
theorem Bools.shape {own : Bool} {l h : Nat} {w : World} {v : Value} {ts : List Bool} (ht : Bools own l h w v ts) : ∃ a cap, v = .slice a ts.length cap ∧ ts.length ≤ cap ∧ cap ≤ 9223372036854775807 := by
  obtain ⟨a, cap, e, h1, h2, _⟩ := ht
  exact ⟨a, cap, e, h1, h2⟩
theorem Bools.at {own : Bool} {l h : Nat} {w : World} {a : Option Addr} {len cap : Nat} {ts : List Bool} (ht : Bools own l h w (.slice a len cap) ts) {k : Nat} (hk : k < ts.length) :
    ∃ b off, a = some ⟨b, off, none⟩ ∧ l ≤ b ∧ b < h ∧ w.cell? ⟨b, off + k, none⟩ = some (.bool ts[k]) := by
  obtain ⟨a', cap', e0, h1, h2, h4⟩ := ht
  simp only [Value.slice.injEq] at e0
  obtain ⟨rfl, _, rfl⟩ := e0
  rcases h4 with h4 | ⟨b, off, e, hlo, hlt, hf, hc⟩
  · subst h4; simp at hk
  · exact ⟨b, off, e, hlo, hlt, hc k _ (List.getElem?_eq_getElem hk)⟩
theorem Bools.own {w : World} {base : Nat} {v : Value} {ts : List Bool} (h : w.ownsRow base 4 1 v ts.length (ts.map Value.bool)) : Bools true base w.heap.size w v ts := by
  rcases h.2 with ⟨rfl, h0⟩ | ⟨g, cap, cur, rfl, hb, hg, hc, hcm, hs, ht⟩
  · have : ts = [] := List.eq_nil_of_length_eq_zero h0
    subst this
    exact Bools.nil _ _ _ _
  · refine ⟨some ⟨g, 0, none⟩, cap, rfl, hc, by unfold maxLen at hcm; omega, ?_⟩
    refine .inr ⟨g, 0, rfl, hb, (h.lt g rfl).2, fun _ j => h.frozenAt j, fun j t hj => ?_⟩
    have hjl : j < ts.length := (List.getElem?_eq_some_iff.1 hj).1
    rw [Nat.zero_add, h.cellAt j (by omega), List.getElem?_map, hj]
    rfl
theorem Bools.put {l h : Nat} {w : World} {b off n cap : Nat} {ts : List Bool} (ht : Bools true l h w (.slice (some ⟨b, off, none⟩) n cap) ts) {k : Nat} (hk : k < ts.length) (x : Bool) :
    Bools true l h (w.setCell ⟨b, off + k, none⟩ (.bool x)) (.slice (some ⟨b, off, none⟩) n cap) (ts.set k x) := by
  obtain ⟨a', cap', e0, h1, h2, h4⟩ := ht
  simp only [Value.slice.injEq] at e0
  obtain ⟨rfl, rfl, rfl⟩ := e0
  rcases h4 with h4 | ⟨b', off', e, hl, hlt, hf, hc⟩
  · rw [h4] at hk; simp at hk
  · simp only [Option.some.injEq, Addr.mk.injEq, and_true] at e
    obtain ⟨rfl, rfl⟩ := e
    have c0 := hc k _ (List.getElem?_eq_getElem hk)
    refine ⟨some ⟨b, off, none⟩, cap, by simp, by simpa using h1, h2, .inr ⟨b, off, rfl, hl, hlt, fun _ j => ?_, fun j t hj => ?_⟩⟩
    · rw [World.frozen?_setCell]; exact hf rfl j
    · by_cases hjk : j = k
      · subst hjk
        rw [List.getElem?_set_self hk] at hj
        simp only [Option.some.injEq] at hj
        subst hj
        exact World.cell?_setCell_same _ _ _ c0
      · rw [List.getElem?_set_ne (by omega)] at hj
        rw [World.cell?_setCell_other _ _ _ _ (by simp <;> omega)]; exact hc j t hj

theorem boolInfo : (Try.prog.info? 4).map (fun i => (i.zero, i.size, i.bytes)) = some (some (.bool false), 1, 1) := by kernel_rfl
/-- The copy's cells behind k rounds. -/
def partT (xs : List Bool) (k : Nat) : List Value := (xs.take k).map Value.bool ++ List.replicate (xs.length - k) (.bool false)
theorem partT_zero (xs : List Bool) : partT xs 0 = List.replicate xs.length (.bool false) := by simp [partT]
theorem partT_end (xs : List Bool) : partT xs xs.length = xs.map Value.bool := by simp [partT]
theorem partT_at (xs : List Bool) (k : Nat) (h : k < xs.length) : (partT xs k)[k]? = some (.bool false) := by
  unfold partT
  have hl : ((xs.take k).map Value.bool).length = k := by simp; omega
  rw [List.getElem?_append_right (by omega), hl, Nat.sub_self, List.getElem?_replicate, if_pos (by omega)]
theorem partT_set (xs : List Bool) (k : Nat) (hk : k < xs.length) : (partT xs k).set k (.bool xs[k]) = partT xs (k + 1) := by
  unfold partT
  rw [List.take_succ_eq_append_getElem hk, List.set_append_right _ _ (by simp; omega)]
  simp only [List.length_map, List.length_take, Nat.min_eq_left (Nat.le_of_lt hk), Nat.sub_self, List.map_append, List.append_assoc]
  congr 1
  rw [show xs.length - k = (xs.length - (k + 1)) + 1 from by omega, List.replicate_succ, List.set_cons_zero]
  rfl

set_option maxRecDepth 100000 in
set_option maxHeartbeats 1600000 in
/-- A copy lies in a new block. -/
theorem toBoolS_own (own : Bool) (l h : Nat) (v : Value) (xs : List Bool) (w : World) (h1 : Bools own l h w v xs) (hlim : h ≤ w.heap.size) (hlen : xs.length ≤ 1048576) :
    Calls Try.prog 39 #[v] w fun e w' => ∃ u, e = .returned u ∧ Below w.heap.size w w' ∧ Bools true w.heap.size w'.heap.size w' u xs := by
  obtain ⟨a, ca, rfl, la, ba⟩ := h1.shape
  obtain ⟨i0, hi, hz0, hz1, hz2⟩ := info_parts boolInfo
  go_enter Try.func39, Try.ntmps39
  go_wp2_with (refine wpList_make_full _ rfl _ _ 23 rfl w.heap.size 4 i0 (.bool false) 1 Try.underlying23 hi hz0 hz1 .i64 .i64 _ _ xs.length rfl rfl rfl rfl (by rw [hz2]; omega) (by unfold maxLen; omega) (Nat.le_refl _) ?_; intro w1 hown hgr)
  have be1 : Below w.heap.size w w1 := (Below.refl _ _).grown hgr (Nat.le_refl _) (fun k e => by simp at e)
  have hown1 : w1.ownsRow w.heap.size 4 1 (Value.slice (some ⟨w.heap.size, 0, none⟩) xs.length xs.length) xs.length (partT xs 0) := by
    rw [partT_zero, Nat.mul_one] at *
    have e := toList_madeCells_one (Value.bool false) xs.length
    rw [← e]
    exact hown
  clear hown hgr hi hz0 hz1 hz2
  go_loopw [4] (fun i wr => ∃ k : Nat, k ≤ xs.length ∧ i = .int .i64 k ∧ Below w.heap.size w wr ∧ wr.ownsRow w.heap.size 4 1 (Value.slice (some ⟨w.heap.size, 0, none⟩) xs.length xs.length) xs.length (partT xs k)) (fun i _ => xs.length - (intOf i).toNat)
  case atStart => exact ⟨0, Nat.zero_le _, rfl, be1, hown1⟩
  case round =>
    obtain ⟨k, hk, rfl, be, hown⟩ := hrel
    by_cases hlt : k < xs.length
    · obtain ⟨b, off, rfl, l1, l2, c1⟩ := (h1.keep be hlim).at hlt
      have cw : wr.cell? ⟨w.heap.size, k, none⟩ = some (.bool false) := (hown.cellAt k (by omega)).trans (partT_at xs k hlt)
      have fw : wr.frozen? ⟨w.heap.size, k, none⟩ = false := hown.frozenAt k
      have st := (hown.stored k (.bool xs[k])).1
      rw [partT_set xs k hlt] at st
      have be' : Below w.heap.size w (wr.setCell ⟨w.heap.size, k, none⟩ (.bool xs[k])) := be.setCell (Nat.le_refl _) _
      obtain ⟨y, hy⟩ : ∃ y, y = xs[k] := ⟨_, rfl⟩
      rw [← hy] at c1 st be'
      clear hown be be1 hown1 hy
      go_wp2_with fail
      go_roundw
      case rel => exact ⟨k + 1, by omega, by go_num, be', st⟩
      case measure => simp [intOf]; omega
    · obtain rfl : k = xs.length := by omega
      rw [partT_end] at hown
      have fin : Bools true w.heap.size wr.heap.size wr (Value.slice (some ⟨w.heap.size, 0, none⟩) xs.length xs.length) xs := Bools.own hown
      clear hown
      go_wp2_with fail
      go_ret
      exact ⟨_, rfl, be, fin⟩

set_option maxRecDepth 100000 in
set_option maxHeartbeats 1600000 in
theorem eqBoolS_same (o1 l1 h1 v o2 l2 h2 u) (xs : List Bool) (w : World) (t1 : Bools o1 l1 h1 w v xs) (t2 : Bools o2 l2 h2 w u xs) (hw1 : h1 ≤ w.heap.size) (hw2 : h2 ≤ w.heap.size) :
    Calls Try.prog 41 #[v, u] w fun e w' => e = .returned (.bool true) ∧ Below w.heap.size w w' := by
  obtain ⟨a, ca, rfl, la, ba⟩ := t1.shape
  obtain ⟨b, cb, rfl, lb, bb⟩ := t2.shape
  go_enter Try.func41, Try.ntmps41
  go_wp2_with fail
  go_loopw [5] (fun i wr => ∃ k n : Nat, k ≤ xs.length ∧ i = .int .i64 k ∧ wr = w.drewN n) (fun i _ => xs.length - (intOf i).toNat)
  case atStart => exact ⟨0, 0, Nat.zero_le _, rfl, rfl⟩
  case round =>
    obtain ⟨k, n, hk, rfl, hwr⟩ := hrel
    have be : Below w.heap.size w wr := by rw [hwr]; exact below_drewN _ _ _
    by_cases hlt : k < xs.length
    · obtain ⟨b1, o1, rfl, q1, l1, c1⟩ := (t1.keep be hw1).at hlt
      obtain ⟨b2, o2, rfl, q2, l2, c2⟩ := (t2.keep be hw2).at hlt
      obtain ⟨y, hy⟩ : ∃ y, y = xs[k] := ⟨_, rfl⟩
      rw [← hy] at c1 c2
      have hb : (y != y) = false := by simp
      have HW := Lib.hid hwr
      clear hwr hy
      go_wp2_with fail
      go_region
      go_wp2_with fail
      go_roundw
      case rel => exact ⟨k + 1, n + 1, by omega, by go_num, by rw [HW.out]; rfl⟩
      case measure => simp [intOf]; omega
    · clear hwr
      go_wp2_with fail
      go_ret
      exact ⟨rfl, be⟩

def marksT : Nat → Nat → List Bool
  | _, 0 => []
  | k, n + 1 => decide (k % 3 = 0) :: marksT (k + 1) n
theorem marksT_length (k n : Nat) : (marksT k n).length = n := by
  induction n generalizing k with
  | zero => rfl
  | succ n ih => simp [marksT, ih]
theorem marksT_at (k n j : Nat) (h : j < n) : (marksT k n)[j]? = some (decide ((k + j) % 3 = 0)) := by
  induction n generalizing k j with
  | zero => omega
  | succ n ih =>
    cases j with
    | zero => simp [marksT]
    | succ j =>
      rw [marksT, List.getElem?_cons_succ, ih _ _ (by omega)]
      rw [show k + 1 + j = k + (j + 1) from by omega]
def markedT (ts : List Bool) (k j : Nat) : List Bool := marksT k j ++ ts.drop j
theorem markedT_length (ts : List Bool) (k j : Nat) (h : j ≤ ts.length) : (markedT ts k j).length = ts.length := by unfold markedT; simp [marksT_length]; omega
theorem marksT_snoc (k n : Nat) : marksT k (n + 1) = marksT k n ++ [decide ((k + n) % 3 = 0)] := by
  apply List.ext_getElem?
  intro j
  by_cases h : j < n
  · rw [marksT_at _ _ _ (by omega), List.getElem?_append_left (by rw [marksT_length]; exact h), marksT_at _ _ _ h]
  · rw [List.getElem?_append_right (by rw [marksT_length]; omega), marksT_length]
    by_cases h2 : j = n
    · subst h2; rw [marksT_at _ _ _ (by omega)]; simp
    · rw [List.getElem?_eq_none (by rw [marksT_length]; omega), List.getElem?_eq_none (by simp; omega)]
theorem markedT_set (ts : List Bool) (k j : Nat) (h : j < ts.length) : (markedT ts k j).set j (decide ((k + j) % 3 = 0)) = markedT ts k (j + 1) := by
  unfold markedT
  rw [marksT_snoc, List.set_append_right _ _ (by rw [marksT_length]; exact Nat.le_refl _), marksT_length, Nat.sub_self, List.drop_eq_getElem_cons h, List.set_cons_zero]
  simp
theorem mod3 (q : Int) (k : Nat) (h : q = (k : Int)) : (q % 3 == 0) = decide (k % 3 = 0) := by
  subst h
  by_cases h : k % 3 = 0
  · simp [h]; omega
  · simp [h]; omega

set_option maxRecDepth 100000 in
set_option maxHeartbeats 1600000 in
theorem markBoolS_any (l h : Nat) (v : Value) (ts : List Bool) (m : Nat) (w : World) (h1 : Bools true l h w v ts) (hw : h ≤ w.heap.size) (hlen : ts.length ≤ 4194304) (hm : m ≤ 16777216) :
    Calls Try.prog 43 #[v, .int .i64 m] w fun e w' => e = .returned (.int .i64 ((m + ts.length : Nat) : Int)) ∧ Only l h w w' ∧ Bools true l h w' v (marksT m ts.length) := by
  obtain ⟨a, ca, rfl, la, ba⟩ := h1.shape
  go_enter Try.func43, Try.ntmps43
  go_wp2_with fail
  go_loopw [1, 5] (fun n i wr => ∃ j : Nat, j ≤ ts.length ∧ i = .int .i64 j ∧ n = .int .i64 ((m + j : Nat) : Int) ∧ Only l h w wr ∧ Bools true l h wr (.slice a ts.length ca) (markedT ts m j)) (fun _ i _ => ts.length - (intOf i).toNat)
  case atStart => exact ⟨0, Nat.zero_le _, rfl, rfl, Only.refl _ _ _, h1⟩
  case round =>
    obtain ⟨j, hj, rfl, rfl, on, ht⟩ := hrel
    have hml := markedT_length ts m j hj
    by_cases hlt : j < ts.length
    · obtain ⟨a', cap', e0, q1, q2, q4⟩ := id ht
      simp only [Value.slice.injEq] at e0
      obtain ⟨rfl, _, rfl⟩ := e0
      rcases q4 with q4 | ⟨b, off, rfl, r1, r2, r3, r4⟩
      · rw [q4] at hml; simp at hml; omega
      have hlt2 : j < (markedT ts m j).length := by omega
      have put := ht.put hlt2 (decide ((m + j) % 3 = 0))
      rw [markedT_set ts m j hlt] at put
      have c0 := r4 j _ (List.getElem?_eq_getElem hlt2)
      have fz := r3 rfl (off + j)
      have on' := on.setCell (p := ⟨b, off + j, none⟩) r1 r2 (.bool (decide ((m + j) % 3 = 0)))
      clear ht r4 r3 hml h1 on
      obtain ⟨q, hq⟩ : ∃ q : Int, q = ((m + j : Nat) : Int) := ⟨_, rfl⟩
      have e3 := mod3 q (m + j) hq
      rw [← e3] at put on'
      rw [← hq]
      have q0 : 0 ≤ q := by omega
      have q1 : q ≤ 100000000 := by omega
      have HQ := Lib.hid hq
      clear hq e3
      go_wp2_with fail
      go_roundw
      case rel => exact ⟨j + 1, by omega, by go_num, by rw [HQ.out]; go_num, on', put⟩
      case measure => simp [intOf]; omega
    · obtain rfl : j = ts.length := by omega
      have e : markedT ts m ts.length = marksT m ts.length := by simp [markedT]
      rw [e] at ht
      go_wp2_with fail
      go_ret
      exact ⟨rfl, on, ht⟩

set_option maxRecDepth 100000 in
set_option maxHeartbeats 1600000 in
theorem heldBoolS_any (own : Bool) (l h : Nat) (v : Value) (n m : Nat) (w : World) (h1 : Bools own l h w v (marksT m n)) (hw : h ≤ w.heap.size) (hlen : n ≤ 4194304) (hm : m ≤ 16777216) :
    Calls Try.prog 51 #[v, .int .i64 m] w fun e w' => e = .returned (.int .i64 ((m + n : Nat) : Int)) ∧ Below w.heap.size w w' := by
  obtain ⟨a, ca, rfl, la, ba⟩ := h1.shape
  have hl := marksT_length m n
  rw [hl] at la h1 ⊢
  go_enter Try.func51, Try.ntmps51
  go_wp2_with fail
  go_loop [1, 5] (fun q i => ∃ j : Nat, j ≤ n ∧ i = .int .i64 j ∧ q = .int .i64 ((m + j : Nat) : Int)) (fun _ i => n - (intOf i).toNat)
  case atStart => exact ⟨0, Nat.zero_le _, rfl, rfl⟩
  case round =>
    obtain ⟨j, hj, rfl, rfl⟩ := hrel
    by_cases hlt : j < n
    · obtain ⟨b, off, rfl, l1, l2, c1⟩ := h1.at (k := j) (by omega)
      have e1 := marksT_at m n j hlt
      have e2 : (marksT m n)[j]'(by omega) = decide ((m + j) % 3 = 0) := by
        have := List.getElem?_eq_getElem (l := marksT m n) (i := j) (by omega)
        rw [this] at e1; exact Option.some.inj e1
      rw [e2] at c1
      clear hl e1 e2
      obtain ⟨q, hq⟩ : ∃ q : Int, q = ((m + j : Nat) : Int) := ⟨_, rfl⟩
      have e3 := mod3 q (m + j) hq
      rw [← e3] at c1
      rw [← hq]
      have q0 : 0 ≤ q := by omega
      have q1 : q ≤ 100000000 := by omega
      have HQ := Lib.hid hq
      have hb : ((q % 3 == 0) != (q % 3 == 0)) = false := by simp
      clear hq e3
      go_wp2_with fail
      go_round
      case rel => exact ⟨j + 1, by omega, by go_num, by rw [HQ.out]; go_num⟩
      case measure => simp [intOf]; omega
    · obtain rfl : j = n := by omega
      clear hl
      go_wp2_with fail
      go_ret
      exact ⟨rfl, Below.refl _ _⟩

theorem szBoolS_left (o l h v) (ts : List Bool) (n : Int) (w : World) (t : Bools o l h w v ts) (n0 : 0 ≤ n) (n1 : n ≤ 1048576) :
    Calls Try.prog 37 #[v, .int .i64 n] w fun e w' => e = .returned (.int .i64 (left n ts.length)) ∧ Below w.heap.size w w' := by
  obtain ⟨a, ka, rfl, la, ba⟩ := t.shape
  by_cases hl : n < ts.length
  · rw [left_no hl]
    go_enter Try.func37, Try.ntmps37
    go_wp2_with fail
    go_ret
    exact ⟨rfl, Below.refl _ _⟩
  · rw [left_ok (by omega)]
    go_enter Try.func37, Try.ntmps37
    go_wp2_with fail
    go_ret
    exact ⟨rfl, Below.refl _ _⟩
end Go.Proofs.Ytcinpoeapbgnhaa.L
