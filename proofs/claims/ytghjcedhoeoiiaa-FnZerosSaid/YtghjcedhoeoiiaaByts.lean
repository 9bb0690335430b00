/- Slices of bytes that a call has made: what they read as, comparison, marks. -/
import Derived.Test.YtghjcedhoeoiiaaNums2
namespace Go.Proofs.Ytghjcedhoeoiiaa.L
open Go.RowKit Go.Proofs.Ytghjcedhoeoiiaa.S
set_option linter.unusedVariables false
set_option linter.unusedSimpArgs false

/-- The slice v reads as the bytes xs, its row in a block from lo on and below hi; own: the row may be written. -/
def Byts (own : Bool) (lo hi : Nat) (w : World) (v : Value) (xs : List Int) : Prop :=
  ∃ a cap, v = .slice a xs.length cap ∧ xs.length ≤ cap ∧ cap ≤ 9223372036854775807 ∧ True ∧
    (xs = [] ∨ ∃ b off, a = some ⟨b, off, none⟩ ∧ lo ≤ b ∧ b < hi ∧ (own = true → ∀ j, w.frozen? ⟨b, j, none⟩ = false) ∧
      ∀ j x, xs[j]? = some x → w.cell? ⟨b, off + j, none⟩ = some (.int .u8 x))

theorem Byts.only {own : Bool} {lo hi l h : Nat} {w w' : World} {v : Value} {ts : List Int} (ht : Byts own l h w v ts) (ho : Only lo hi w w') (hd : h ≤ lo ∨ hi ≤ l) (hs : h ≤ w.heap.size) : Byts own l h w' v ts := by
  obtain ⟨a, cap, rfl, h1, h2, h3, h4⟩ := ht
  refine ⟨a, cap, rfl, h1, h2, h3, ?_⟩
  rcases h4 with h4 | ⟨b, off, e, hl, hlt, hf, hc⟩
  · exact .inl h4
  · have hb : b < w.heap.size := Nat.lt_of_lt_of_le hlt hs
    have hx : b < lo ∨ hi ≤ b := by omega
    exact .inr ⟨b, off, e, hl, hlt, fun hw j => by rw [ho.frozen hb hx]; exact hf hw j, fun j t hj => by rw [ho.cell hb hx]; exact hc j t hj⟩
theorem Byts.keep {own : Bool} {l h B : Nat} {w w' : World} {v : Value} {ts : List Int} (ht : Byts own l h w v ts) (hb : Below B w w') (hl : h ≤ B) : Byts own l h w' v ts := by
  obtain ⟨a, cap, rfl, h1, h2, h3, h4⟩ := ht
  refine ⟨a, cap, rfl, h1, h2, h3, ?_⟩
  rcases h4 with h4 | ⟨b, off, e, hlo, hlt, hf, hc⟩
  · exact .inl h4
  · have hx : b < B := Nat.lt_of_lt_of_le hlt hl
    exact .inr ⟨b, off, e, hlo, hlt, fun hw j => by rw [hb.frozen (p := ⟨b, j, none⟩) hx]; exact hf hw j, fun j t hj => by rw [hb.cell (p := ⟨b, off + j, none⟩) hx]; exact hc j t hj⟩
theorem Byts.nil (own : Bool) (l h : Nat) (w : World) : Byts own l h w (.slice none 0 0) [] := ⟨none, 0, rfl, Nat.le_refl _, by omega, trivial, .inl rfl⟩
theorem Byts.shape {own : Bool} {l h : Nat} {w : World} {v : Value} {ts : List Int} (ht : Byts own l h w v ts) : ∃ a cap, v = .slice a ts.length cap ∧ ts.length ≤ cap ∧ cap ≤ 9223372036854775807 := by
  obtain ⟨a, cap, e, h1, h2, _⟩ := ht
  exact ⟨a, cap, e, h1, h2⟩
theorem Byts.at {own : Bool} {l h : Nat} {w : World} {a : Option Addr} {len cap : Nat} {ts : List Int} (ht : Byts own l h w (.slice a len cap) ts) {k : Nat} (hk : k < ts.length) :
    ∃ b off, a = some ⟨b, off, none⟩ ∧ l ≤ b ∧ b < h ∧ w.cell? ⟨b, off + k, none⟩ = some (.int .u8 ts[k]) := by
  obtain ⟨a', cap', e, h1, h2, -, h4⟩ := ht
  simp only [Value.slice.injEq] at e
  obtain ⟨rfl, -, -⟩ := e
  rcases h4 with h4 | ⟨b, off, rfl, hl, hlt, -, hc⟩
  · subst h4; simp at hk
  · exact ⟨b, off, rfl, hl, hlt, hc k _ (List.getElem?_eq_getElem hk)⟩
theorem Byts.own {w : World} {base : Nat} {v : Value} {ts : List Int} (h : w.ownsRow base 5 1 v ts.length (ts.map (Value.int .u8)))   : Byts true base w.heap.size w v ts := by
  rcases h.2 with ⟨rfl, h0⟩ | ⟨g, cap, cur, rfl, hb, hg, hc, hcm, hs, ht⟩
  · have : ts = [] := List.eq_nil_of_length_eq_zero h0
    subst this
    exact Byts.nil _ _ _ _
  · refine ⟨some ⟨g, 0, none⟩, cap, rfl, hc, by unfold maxLen at hcm; omega, trivial, ?_⟩
    refine .inr ⟨g, 0, rfl, hb, (h.lt g rfl).2, fun _ j => h.frozenAt j, fun j t hj => ?_⟩
    have hjl : j < ts.length := (List.getElem?_eq_some_iff.1 hj).1
    rw [Nat.zero_add, h.cellAt j (by omega), List.getElem?_map, hj]
    rfl

theorem Byts.mono {own : Bool} {l h l' h' : Nat} {w : World} {v : Value} {ts : List Int} (ht : Byts own l h w v ts) (h1' : l' ≤ l) (h2' : h ≤ h') : Byts own l' h' w v ts := by
  obtain ⟨a, cap, rfl, h1, h2, h3, h4⟩ := ht
  refine ⟨a, cap, rfl, h1, h2, h3, ?_⟩
  rcases h4 with h4 | ⟨b, off, e, hl, hlt, hf, hc⟩
  · exact .inl h4
  · exact .inr ⟨b, off, e, by omega, by omega, hf, hc⟩

/-- What marking leaves: the lowest bytes of numbers that follow one another. -/
def marksB (k n : Nat) : List Int := (marksN k n).map (· % 256)
theorem marksB_length (k n : Nat) : (marksB k n).length = n := by simp [marksB, marksN_length]
def markedB (ts : List Int) (k j : Nat) : List Int := marksB k j ++ ts.drop j
theorem markedB_length (ts : List Int) (k j : Nat) (h : j ≤ ts.length) : (markedB ts k j).length = ts.length := by unfold markedB; simp [marksB_length]; omega
theorem markedB_set (ts : List Int) (k j : Nat) (h : j < ts.length) : (markedB ts k j).set j (((k + j : Nat) : Int) % 256) = markedB ts k (j + 1) := by
  unfold markedB
  rw [List.set_append_right _ _ (by rw [marksB_length]; exact Nat.le_refl _), marksB_length, Nat.sub_self, List.drop_eq_getElem_cons h, List.set_cons_zero]
  unfold marksB
  rw [marksN_snoc, List.map_append, List.append_assoc]
  rfl
theorem marksB_at (k n j : Nat) (h : j < n) : (marksB k n)[j]? = some (((k + j : Nat) : Int) % 256) := by unfold marksB; rw [List.getElem?_map, marksN_at k n j h]; rfl
theorem Byts.put {l h : Nat} {w : World} {b off n cap : Nat} {ts : List Int} (ht : Byts true l h w (.slice (some ⟨b, off, none⟩) n cap) ts) {k : Nat} (hk : k < ts.length) (x : Int) :
    Byts true l h (w.setCell ⟨b, off + k, none⟩ (.int .u8 x)) (.slice (some ⟨b, off, none⟩) n cap) (ts.set k x) := by
  obtain ⟨a', cap', e0, h1, h2, h3, h4⟩ := ht
  simp only [Value.slice.injEq] at e0
  obtain ⟨rfl, rfl, rfl⟩ := e0
  rcases h4 with h4 | ⟨b', off', e, hl, hlt, hf, hc⟩
  · rw [h4] at hk; simp at hk
  · simp only [Option.some.injEq, Addr.mk.injEq, and_true] at e
    obtain ⟨rfl, rfl⟩ := e
    have c0 := hc k _ (List.getElem?_eq_getElem hk)
    refine ⟨some ⟨b, off, none⟩, cap, by simp, by simpa using h1, h2, trivial, .inr ⟨b, off, rfl, hl, hlt, fun _ j => ?_, fun j t hj => ?_⟩⟩
    · rw [World.frozen?_setCell]; exact hf rfl j
    · by_cases hjk : j = k
      · subst hjk
        rw [List.getElem?_set_self hk] at hj
        simp only [Option.some.injEq] at hj
        subst hj
        exact World.cell?_setCell_same _ _ _ c0
      · rw [List.getElem?_set_ne (by omega)] at hj
        rw [World.cell?_setCell_other _ _ _ _ (by simp <;> omega)]; exact hc j t hj


end Go.Proofs.Ytghjcedhoeoiiaa.L
