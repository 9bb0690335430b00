/- Slices of numbers that a call has made: what they read as, comparison, marks; the variables of a combination. -/
import Derived.Test.YteekpdlkdpkegaaMrg
import Derived.Test.YteekpdlkdpkegaaToInts
namespace Go.Proofs.Yteekpdlkdpkegaa.L
open Go.RowKit Go.Proofs.Yteekpdlkdpkegaa.S
set_option linter.unusedVariables false
set_option linter.unusedSimpArgs false

/-- The slice v reads as the numbers xs, its row in a block from lo on and below hi; own: the row may be written. -/
def Nums (own : Bool) (lo hi : Nat) (w : World) (v : Value) (xs : List Int) : Prop :=
  ∃ a cap, v = .slice a xs.length cap ∧ xs.length ≤ cap ∧ cap ≤ 9223372036854775807 ∧ (∀ x ∈ xs, Fits x) ∧
    (xs = [] ∨ ∃ b off, a = some ⟨b, off, none⟩ ∧ lo ≤ b ∧ b < hi ∧ (own = true → ∀ j, w.frozen? ⟨b, j, none⟩ = false) ∧
      ∀ j x, xs[j]? = some x → w.cell? ⟨b, off + j, none⟩ = some (.int .i64 x))

theorem Nums.only {own : Bool} {lo hi l h : Nat} {w w' : World} {v : Value} {ts : List Int} (ht : Nums own l h w v ts) (ho : Only lo hi w w') (hd : h ≤ lo ∨ hi ≤ l) (hs : h ≤ w.heap.size) : Nums own l h w' v ts := by
  obtain ⟨a, cap, rfl, h1, h2, h3, h4⟩ := ht
  refine ⟨a, cap, rfl, h1, h2, h3, ?_⟩
  rcases h4 with h4 | ⟨b, off, e, hl, hlt, hf, hc⟩
  · exact .inl h4
  · have hb : b < w.heap.size := Nat.lt_of_lt_of_le hlt hs
    have hx : b < lo ∨ hi ≤ b := by omega
    exact .inr ⟨b, off, e, hl, hlt, fun hw j => by rw [ho.frozen hb hx]; exact hf hw j, fun j t hj => by rw [ho.cell hb hx]; exact hc j t hj⟩
theorem Nums.keep {own : Bool} {l h B : Nat} {w w' : World} {v : Value} {ts : List Int} (ht : Nums own l h w v ts) (hb : Below B w w') (hl : h ≤ B) : Nums own l h w' v ts := by
  obtain ⟨a, cap, rfl, h1, h2, h3, h4⟩ := ht
  refine ⟨a, cap, rfl, h1, h2, h3, ?_⟩
  rcases h4 with h4 | ⟨b, off, e, hlo, hlt, hf, hc⟩
  · exact .inl h4
  · have hx : b < B := Nat.lt_of_lt_of_le hlt hl
    exact .inr ⟨b, off, e, hlo, hlt, fun hw j => by rw [hb.frozen (p := ⟨b, j, none⟩) hx]; exact hf hw j, fun j t hj => by rw [hb.cell (p := ⟨b, off + j, none⟩) hx]; exact hc j t hj⟩
theorem Nums.nil (own : Bool) (l h : Nat) (w : World) : Nums own l h w (.slice none 0 0) [] := ⟨none, 0, rfl, Nat.le_refl _, by omega, by simp, .inl rfl⟩
theorem Nums.shape {own : Bool} {l h : Nat} {w : World} {v : Value} {ts : List Int} (ht : Nums own l h w v ts) : ∃ a cap, v = .slice a ts.length cap ∧ ts.length ≤ cap ∧ cap ≤ 9223372036854775807 := by
  obtain ⟨a, cap, e, h1, h2, _⟩ := ht
  exact ⟨a, cap, e, h1, h2⟩
theorem Nums.ints {own : Bool} {l h : Nat} {w : World} {v : Value} {ts : List Int} (ht : Nums own l h w v ts) : Ints h w v ts := by
  obtain ⟨a, cap, rfl, h1, h2, h3, h4⟩ := ht
  refine ⟨a, cap, rfl, h1, h2, h3, ?_⟩
  rcases h4 with h4 | ⟨b, off, e, hl, hlt, _, hc⟩
  · exact .inl h4
  · exact .inr ⟨b, off, e, hlt, hc⟩
theorem Nums.at {own : Bool} {l h : Nat} {w : World} {a : Option Addr} {len cap : Nat} {ts : List Int} (ht : Nums own l h w (.slice a len cap) ts) {k : Nat} (hk : k < ts.length) :
    ∃ b off x, a = some ⟨b, off, none⟩ ∧ w.cell? ⟨b, off + k, none⟩ = some (.int .i64 x) ∧ ts[k]? = some x ∧ Fits x := by
  obtain ⟨b, off, x, e, _, c, hx, fx⟩ := ht.ints.at hk
  exact ⟨b, off, x, e, c, hx, fx⟩
theorem Nums.own {w : World} {base : Nat} {v : Value} {ts : List Int} (h : w.ownsRow base 3 1 v ts.length (ts.map (Value.int .i64))) (hf : ∀ t ∈ ts, Fits t) : Nums true base w.heap.size w v ts := by
  rcases h.2 with ⟨rfl, h0⟩ | ⟨g, cap, cur, rfl, hb, hg, hc, hcm, hs, ht⟩
  · have : ts = [] := List.eq_nil_of_length_eq_zero h0
    subst this
    exact Nums.nil _ _ _ _
  · refine ⟨some ⟨g, 0, none⟩, cap, rfl, hc, by unfold maxLen at hcm; omega, hf, ?_⟩
    refine .inr ⟨g, 0, rfl, hb, (h.lt g rfl).2, fun _ j => h.frozenAt j, fun j t hj => ?_⟩
    have hjl : j < ts.length := (List.getElem?_eq_some_iff.1 hj).1
    rw [Nat.zero_add, h.cellAt j (by omega), List.getElem?_map, hj]
    rfl

def marksN : Nat → Nat → List Int
  | _, 0 => []
  | k, n + 1 => (k : Int) :: marksN (k + 1) n
theorem marksN_length (k n : Nat) : (marksN k n).length = n := by
  induction n generalizing k with
  | zero => rfl
  | succ n ih => simp [marksN, ih]
theorem marksN_at (k n j : Nat) (h : j < n) : (marksN k n)[j]? = some ((k + j : Nat) : Int) := by
  induction n generalizing k j with
  | zero => omega
  | succ n ih =>
    cases j with
    | zero => simp [marksN]
    | succ j =>
      simp only [marksN, List.getElem?_cons_succ]
      rw [ih (k + 1) j (by omega), show k + 1 + j = k + (j + 1) from by omega]
def markedN (ts : List Int) (k j : Nat) : List Int := marksN k j ++ ts.drop j
theorem markedN_length (ts : List Int) (k j : Nat) (h : j ≤ ts.length) : (markedN ts k j).length = ts.length := by unfold markedN; simp [marksN_length]; omega
theorem marksN_snoc (k n : Nat) : marksN k (n + 1) = marksN k n ++ [((k + n : Nat) : Int)] := by
  apply List.ext_getElem?
  intro j
  by_cases h : j < n
  · rw [marksN_at _ _ _ (by omega), List.getElem?_append_left (by rw [marksN_length]; exact h), marksN_at _ _ _ h]
  · by_cases h2 : j = n
    · subst h2
      rw [marksN_at _ _ _ (by omega), List.getElem?_append_right (by rw [marksN_length]; omega), marksN_length, Nat.sub_self]
      rfl
    · rw [List.getElem?_eq_none (by rw [marksN_length]; omega), List.getElem?_eq_none (by simp [marksN_length]; omega)]
theorem markedN_set (ts : List Int) (k j : Nat) (h : j < ts.length) : (markedN ts k j).set j ((k + j : Nat) : Int) = markedN ts k (j + 1) := by
  unfold markedN
  rw [marksN_snoc, List.set_append_right _ _ (by rw [marksN_length]; exact Nat.le_refl _), marksN_length, Nat.sub_self, List.drop_eq_getElem_cons h, List.set_cons_zero]
  simp
theorem Nums.put {l h : Nat} {w : World} {b off n cap : Nat} {ts : List Int} (ht : Nums true l h w (.slice (some ⟨b, off, none⟩) n cap) ts) {k : Nat} (hk : k < ts.length) (x : Int) (fx : Fits x) :
    Nums true l h (w.setCell ⟨b, off + k, none⟩ (.int .i64 x)) (.slice (some ⟨b, off, none⟩) n cap) (ts.set k x) := by
  obtain ⟨a', cap', e0, h1, h2, h3, h4⟩ := ht
  simp only [Value.slice.injEq] at e0
  obtain ⟨rfl, rfl, rfl⟩ := e0
  have hfit : ∀ t ∈ ts.set k x, Fits t := by
    intro t hm
    rcases List.mem_or_eq_of_mem_set hm with hm | rfl
    · exact h3 t hm
    · exact fx
  rcases h4 with h4 | ⟨b', off', e, hl, hlt, hf, hc⟩
  · rw [h4] at hk; simp at hk
  · simp only [Option.some.injEq, Addr.mk.injEq, and_true] at e
    obtain ⟨rfl, rfl⟩ := e
    have c0 := hc k _ (List.getElem?_eq_getElem hk)
    refine ⟨some ⟨b, off, none⟩, cap, by simp, by simpa using h1, h2, hfit, .inr ⟨b, off, rfl, hl, hlt, fun _ j => ?_, fun j t hj => ?_⟩⟩
    · rw [World.frozen?_setCell]; exact hf rfl j
    · by_cases hjk : j = k
      · subst hjk
        rw [List.getElem?_set_self hk] at hj
        simp only [Option.some.injEq] at hj
        subst hj
        exact World.cell?_setCell_same _ _ _ c0
      · rw [List.getElem?_set_ne (by omega)] at hj
        rw [World.cell?_setCell_other _ _ _ _ (by simp <;> omega)]; exact hc j t hj

end Go.Proofs.Yteekpdlkdpkegaa.L
