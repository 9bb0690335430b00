/- Shapes: what a few cells read as, with slices within; slices of whatever has a shape. -/
import Derived.Test.YteekpdlkdpkegaaTerms
namespace Go.Proofs.Yteekpdlkdpkegaa.L
open Go.RowKit Go.Proofs.Yteekpdlkdpkegaa.S
set_option linter.unusedVariables false
set_option linter.unusedSimpArgs false

/-- The blocks from l on and below h are the same in both worlds. -/
def Same (l h : Nat) (w w' : World) : Prop := ∀ k, l ≤ k → k < h → w'.heap[k]? = w.heap[k]?
theorem Same.of_below {l h B : Nat} {w w' : World} (hb : Below B w w') (hl : h ≤ B) : Same l h w w' := fun k _ hk => hb.block k (Nat.lt_of_lt_of_le hk hl)
theorem Same.of_only {l h lo hi : Nat} {w w' : World} (ho : Only lo hi w w') (hd : h ≤ lo ∨ hi ≤ l) (hs : h ≤ w.heap.size) : Same l h w w' := fun k h1 h2 => ho.block k (by omega) (by omega)
theorem Same.sub {l h l' h' : Nat} {w w' : World} (s : Same l h w w') (h1 : l ≤ l') (h2 : h' ≤ h) : Same l' h' w w' := fun k a b => s k (by omega) (by omega)
theorem Same.cell {l h b : Nat} {w w' : World} (s : Same l h w w') (h1 : l ≤ b) (h2 : b < h) (j : Nat) : w'.cell? ⟨b, j, none⟩ = w.cell? ⟨b, j, none⟩ := World.cell?_of_block (a := ⟨b, j, none⟩) (s b h1 h2)
theorem Same.frozen {l h b : Nat} {w w' : World} (s : Same l h w w') (h1 : l ≤ b) (h2 : b < h) (j : Nat) : w'.frozen? ⟨b, j, none⟩ = w.frozen? ⟨b, j, none⟩ := World.frozen?_of_block (a := ⟨b, j, none⟩) (s b h1 h2)

theorem Terms.agree {own : Bool} {l h : Nat} {w w' : World} {v : Value} {ts : List T} (ht : Terms own l h w v ts) (hs : Same l h w w') : Terms own l h w' v ts := by
  obtain ⟨a, cap, rfl, h1, h2, h3, h4⟩ := ht
  refine ⟨a, cap, rfl, h1, h2, h3, ?_⟩
  rcases h4 with h4 | ⟨b, off, e, hl, hlt, hf, hc⟩
  · exact .inl h4
  · exact .inr ⟨b, off, e, hl, hlt, fun hw j => by rw [hs.frozen hl hlt]; exact hf hw j, fun j t hj => by rw [hs.cell hl hlt, hs.cell hl hlt]; exact hc j t hj⟩

/-- What wd cells read as; all memory behind them lies in the blocks from l on and below h; own: it may be written, and no two parts share a block. -/
structure Shape (α : Type) where
  wd : Nat
  rep : Bool → Nat → Nat → World → List Value → α → Prop
  len : ∀ {o l h w cs x}, rep o l h w cs x → cs.length = wd
  agree : ∀ {o l h w w' cs x}, rep o l h w cs x → Same l h w w' → rep o l h w' cs x
  mono : ∀ {o l h l' h' w cs x}, rep o l h w cs x → l' ≤ l → h ≤ h' → rep o l' h' w cs x

namespace Shape
def lin : Shape (List T) where
  wd := 1
  rep o l h w cs x := ∃ v, cs = [v] ∧ Terms o l h w v x
  len h := by obtain ⟨v, rfl, _⟩ := h; rfl
  agree h s := by obtain ⟨v, e, t⟩ := h; exact ⟨v, e, t.agree s⟩
  mono h a b := by obtain ⟨v, e, t⟩ := h; exact ⟨v, e, t.mono a b⟩
/-- A slice whose elements have a shape. -/
def rowRep {α : Type} (E : Shape α) (o : Bool) (l h : Nat) (w : World) (cs : List Value) (xs : List α) : Prop :=
  ∃ a cap, cs = [.slice a xs.length cap] ∧ xs.length ≤ cap ∧ cap ≤ 9223372036854775807 ∧
    (xs = [] ∨ ∃ b off, a = some ⟨b, off, none⟩ ∧ l ≤ b ∧ b < h ∧ (o = true → ∀ j, w.frozen? ⟨b, j, none⟩ = false) ∧
      ∃ (C : Nat → List Value) (L H : Nat → Nat), (o = true → (∀ j, j < xs.length → b < L j ∨ H j ≤ b) ∧ ∀ i j, i < j → j < xs.length → H i ≤ L j ∨ H j ≤ L i) ∧
        ∀ j x, xs[j]? = some x → l ≤ L j ∧ H j ≤ h ∧ (∀ f c, (C j)[f]? = some c → w.cell? ⟨b, off + j * E.wd + f, none⟩ = some c) ∧ E.rep o (L j) (H j) w (C j) x)

def row {α : Type} (E : Shape α) : Shape (List α) where
  wd := 1
  rep := rowRep E
  len h := by obtain ⟨a, cap, rfl, _⟩ := h; rfl
  agree h s := by
    obtain ⟨a, cap, e, h1, h2, h4⟩ := h
    refine ⟨a, cap, e, h1, h2, ?_⟩
    rcases h4 with h4 | ⟨b, off, ea, hl, hlt, hf, C, L, H, hd, hc⟩
    · exact .inl h4
    · refine .inr ⟨b, off, ea, hl, hlt, fun ho j => by rw [s.frozen hl hlt]; exact hf ho j, C, L, H, hd, fun j x hj => ?_⟩
      obtain ⟨a1, a2, a3, a4⟩ := hc j x hj
      exact ⟨a1, a2, fun f c hfc => by rw [s.cell hl hlt]; exact a3 f c hfc, E.agree a4 (s.sub a1 a2)⟩
  mono h p q := by
    obtain ⟨a, cap, e, h1, h2, h4⟩ := h
    refine ⟨a, cap, e, h1, h2, ?_⟩
    rcases h4 with h4 | ⟨b, off, ea, hl, hlt, hf, C, L, H, hd, hc⟩
    · exact .inl h4
    · refine .inr ⟨b, off, ea, by omega, by omega, hf, C, L, H, hd, fun j x hj => ?_⟩
      obtain ⟨a1, a2, a3, a4⟩ := hc j x hj
      exact ⟨by omega, by omega, a3, a4⟩

variable {α : Type} {E : Shape α}
theorem keep {o : Bool} {l h B : Nat} {w w' : World} {cs : List Value} {x : α} (t : E.rep o l h w cs x) (hb : Below B w w') (hl : h ≤ B) : E.rep o l h w' cs x := E.agree t (Same.of_below hb hl)
theorem only {o : Bool} {l h lo hi : Nat} {w w' : World} {cs : List Value} {x : α} (t : E.rep o l h w cs x) (ho : Only lo hi w w') (hd : h ≤ lo ∨ hi ≤ l) (hs : h ≤ w.heap.size) : E.rep o l h w' cs x := E.agree t (Same.of_only ho hd hs)
theorem row_nil (o : Bool) (l h : Nat) (w : World) : (row E).rep o l h w [.slice none 0 0] [] := ⟨none, 0, rfl, Nat.le_refl _, by omega, .inl rfl⟩
theorem row_shape {o : Bool} {l h : Nat} {w : World} {cs : List Value} {xs : List α} (t : (row E).rep o l h w cs xs) : ∃ a cap, cs = [.slice a xs.length cap] ∧ xs.length ≤ cap ∧ cap ≤ 9223372036854775807 := by
  obtain ⟨a, cap, e, h1, h2, _⟩ := t
  exact ⟨a, cap, e, h1, h2⟩

/-- From w to w' only the cells from s on, n of them, of block b may have been written, and the blocks from L on and below H; new blocks may have come. -/
structure Chg (b s n L H : Nat) (w w' : World) : Prop where
  size : w.heap.size ≤ w'.heap.size
  block : ∀ k, k < w.heap.size → k ≠ b → (k < L ∨ H ≤ k) → w'.heap[k]? = w.heap[k]?
  cell : ∀ i, (i < s ∨ s + n ≤ i) → w'.cell? ⟨b, i, none⟩ = w.cell? ⟨b, i, none⟩
  frozen : ∀ i, w'.frozen? ⟨b, i, none⟩ = w.frozen? ⟨b, i, none⟩
theorem Chg.refl (b s n L H : Nat) (w : World) : Chg b s n L H w w := ⟨Nat.le_refl _, fun _ _ _ _ => rfl, fun _ _ => rfl, fun _ => rfl⟩
theorem Chg.setCell {b s n L H : Nat} {w w' : World} (c : Chg b s n L H w w') {i : Nat} (h1 : s ≤ i) (h2 : i < s + n) (u : Value) : Chg b s n L H w (w'.setCell ⟨b, i, none⟩ u) where
  size := by simpa [World.setCell] using c.size
  block k hk hb ho := by rw [Below.heap_setCell _ _ _ _ (by first | exact hb | simpa using hb)]; exact c.block k hk hb ho
  cell j hj := by rw [World.cell?_setCell_other _ _ _ _ (by first | (simp; done) | (simp; omega))]; exact c.cell j hj
  frozen j := by rw [World.frozen?_setCell]; exact c.frozen j
theorem Chg.only {b s n L H lo hi : Nat} {w w' w'' : World} (c : Chg b s n L H w w') (ho : Only lo hi w' w'') (h1 : L ≤ lo) (h2 : hi ≤ H) (hb : b < lo ∨ hi ≤ b) (hs : b < w.heap.size) : Chg b s n L H w w'' where
  size := Nat.le_trans c.size ho.size
  block k hk hkb hkh := by rw [ho.block k (Nat.lt_of_lt_of_le hk c.size) (by omega)]; exact c.block k hk hkb hkh
  cell j hj := by rw [ho.cell (Nat.lt_of_lt_of_le hs c.size) hb]; exact c.cell j hj
  frozen j := by rw [ho.frozen (Nat.lt_of_lt_of_le hs c.size) hb]; exact c.frozen j
theorem Chg.below {b s n L H B : Nat} {w w' w'' : World} (c : Chg b s n L H w w') (hb : Below B w' w'') (hB : w.heap.size ≤ B) (hs : b < w.heap.size) : Chg b s n L H w w'' where
  size := Nat.le_trans c.size hb.size
  block k hk hkb hkh := by rw [hb.block k (Nat.lt_of_lt_of_le hk hB)]; exact c.block k hk hkb hkh
  cell j hj := by rw [hb.cell (p := ⟨b, j, none⟩) (Nat.lt_of_lt_of_le hs hB)]; exact c.cell j hj
  frozen j := by rw [hb.frozen (p := ⟨b, j, none⟩) (Nat.lt_of_lt_of_le hs hB)]; exact c.frozen j

theorem idx_lt {i j d f : Nat} (hij : i < j) (hf : f < d) : i * d + f < j * d := by
  have h := Nat.mul_le_mul_right d (show i + 1 ≤ j from hij)
  rw [Nat.add_mul, Nat.one_mul] at h
  omega
theorem idx_ne {i j d f off : Nat} (hij : i ≠ j) (hf : f < d) : off + i * d + f < off + j * d ∨ off + j * d + d ≤ off + i * d + f := by
  rcases Nat.lt_or_gt_of_ne hij with h | h
  · have := idx_lt h hf; omega
  · have h := Nat.mul_le_mul_right d (show j + 1 ≤ i from h)
    rw [Nat.add_mul, Nat.one_mul] at h
    omega

/-- The element j of a slice, and what the slice reads as when only this element has been written. -/
theorem row_focus {o : Bool} {l h : Nat} {w : World} {a : Option Addr} {n cap : Nat} {xs : List α} (t : (row E).rep o l h w [.slice a n cap] xs) {j : Nat} (hj : j < xs.length) :
    ∃ b off cs L H, a = some ⟨b, off, none⟩ ∧ l ≤ b ∧ b < h ∧ l ≤ L ∧ H ≤ h ∧ (∀ f c, cs[f]? = some c → w.cell? ⟨b, off + j * E.wd + f, none⟩ = some c) ∧ E.rep o L H w cs xs[j] ∧
      (o = true → (b < L ∨ H ≤ b) ∧ (∀ i, w.frozen? ⟨b, i, none⟩ = false) ∧
        ∀ w' cs' x' L' H' h', Chg b (off + j * E.wd) E.wd L H w w' → (∀ f c, cs'[f]? = some c → w'.cell? ⟨b, off + j * E.wd + f, none⟩ = some c) → E.rep true L' H' w' cs' x' → h ≤ w.heap.size → h ≤ h' → (L ≤ L' ∧ H' ≤ H ∨ h ≤ L' ∧ H' ≤ h') →
          (row E).rep true l h' w' [.slice a n cap] (xs.set j x')) := by
  obtain ⟨a0, cap0, e0, h1, h2, h4⟩ := t
  simp only [List.cons.injEq, Value.slice.injEq, and_true] at e0
  obtain ⟨rfl, rfl, rfl⟩ := e0
  rcases h4 with h4 | ⟨b, off, ea, hl, hlt, hf, C, L, H, hd, hc⟩
  · subst h4; simp at hj
  obtain ⟨a1, a2, a3, a4⟩ := hc j _ (List.getElem?_eq_getElem hj)
  refine ⟨b, off, C j, L j, H j, ea, hl, hlt, a1, a2, a3, a4, fun ho => ⟨(hd ho).1 j hj, hf ho, fun w' cs' x' L' H' h' hch hcs hrep hsz hh hint => ?_⟩⟩
  subst ho
  obtain ⟨d1, d2⟩ := hd rfl
  refine ⟨a, cap, by simp, by simpa using h1, h2, .inr ⟨b, off, ea, hl, by omega, fun _ i => by rw [hch.frozen]; exact hf rfl i, fun i => if i = j then cs' else C i, fun i => if i = j then L' else L i, fun i => if i = j then H' else H i, fun _ => ⟨fun i hi => ?_, fun i k hik hk => ?_⟩, fun i x hi => ?_⟩⟩
  · have hi' : i < xs.length := by simpa using hi
    by_cases e : i = j
    · simp only [e, if_true]
      have := d1 j hj
      omega
    · simp only [e, if_false]; exact d1 i hi'
  · have hk' : k < xs.length := by simpa using hk
    by_cases e : i = j
    · subst e
      have e2 : k ≠ i := by omega
      simp only [if_true, e2, if_false]
      have := d2 i k hik hk'
      obtain ⟨b1, b2, _⟩ := hc k _ (List.getElem?_eq_getElem hk')
      omega
    · by_cases e2 : k = j
      · subst e2
        simp only [if_true, e, if_false]
        have := d2 i k hik hk'
        obtain ⟨b1, b2, _⟩ := hc i _ (List.getElem?_eq_getElem (show i < xs.length by omega))
        omega
      · simp only [e, e2, if_false]; exact d2 i k hik hk'
  · by_cases e : i = j
    · subst e
      rw [List.getElem?_set_self hj] at hi
      simp only [Option.some.injEq] at hi
      subst hi
      simp only [if_true]
      exact ⟨by omega, by omega, hcs, hrep⟩
    · rw [List.getElem?_set_ne (by omega)] at hi
      have hil : i < xs.length := (List.getElem?_eq_some_iff.1 hi).1
      simp only [e, if_false]
      obtain ⟨b1, b2, b3, b4⟩ := hc i x hi
      refine ⟨b1, by omega, fun f c hfc => ?_, E.agree b4 (fun k k1 k2 => hch.block k (by omega) ?_ ?_)⟩
      · have hfl : f < E.wd := by rw [← E.len b4]; exact (List.getElem?_eq_some_iff.1 hfc).1
        rw [hch.cell _ (idx_ne e hfl)]
        exact b3 f c hfc
      · have := d1 i hil; omega
      · rcases Nat.lt_or_gt_of_ne e with q | q
        · have := d2 i j q hj; omega
        · have := d2 j i q hil; omega

/-- Only for reading: the element's memory lies where the slice's does. -/
theorem row_at {o : Bool} {l h : Nat} {w : World} {a : Option Addr} {n cap : Nat} {xs : List α} (t : (row E).rep o l h w [.slice a n cap] xs) {j : Nat} (hj : j < xs.length) :
    ∃ b off cs, a = some ⟨b, off, none⟩ ∧ l ≤ b ∧ b < h ∧ (∀ f c, cs[f]? = some c → w.cell? ⟨b, off + j * E.wd + f, none⟩ = some c) ∧ E.rep o l h w cs xs[j] := by
  obtain ⟨b, off, cs, L, H, e, h1, h2, h3, h4, hc, hr, _⟩ := row_focus t hj
  exact ⟨b, off, cs, e, h1, h2, hc, E.mono hr h3 h4⟩

/-- The cells of a list of chunks of the same width. -/
theorem flat_at {d : Nat} : ∀ {css : List (List Value)} (hd : ∀ c ∈ css, c.length = d) {j f : Nat} {cs : List Value} (h : css[j]? = some cs) (hf : f < d), css.flatten[j * d + f]? = cs[f]?
  | [], _, _, _, _, h, _ => by simp at h
  | c :: r, hd, j, f, cs, h, hf => by
    have hc : c.length = d := hd c (by simp)
    cases j with
    | zero =>
      simp at h; subst h
      rw [List.flatten_cons, List.getElem?_append_left (by omega), Nat.zero_mul, Nat.zero_add]
    | succ j =>
      simp at h
      rw [List.flatten_cons, List.getElem?_append_right (by rw [hc, Nat.add_mul]; omega), hc, show (j + 1) * d + f - d = j * d + f from by rw [Nat.add_mul]; omega]
      exact flat_at (fun c hc => hd c (by simp [hc])) h hf
theorem flat_length {d : Nat} : ∀ {css : List (List Value)} (hd : ∀ c ∈ css, c.length = d), css.flatten.length = css.length * d
  | [], _ => by simp
  | c :: r, hd => by
    have := flat_length (fun c hc => hd c (by simp [hc]) : ∀ c ∈ r, c.length = d)
    rw [List.flatten_cons, List.length_append, this, hd c (by simp), List.length_cons, Nat.add_mul]; omega

/-- A row of one's own reads as a slice of its elements. -/
theorem row_owns {w : World} {base : Nat} {e : TypeId} {v : Value} {css : List (List Value)} {xs : List α} {l h : Nat} (hr : w.ownsRow base e E.wd v xs.length css.flatten) (hcl : css.length = xs.length) (hd : ∀ c ∈ css, c.length = E.wd)
    (hl : l ≤ base) (hh : w.heap.size ≤ h) (L H : Nat → Nat) (ho : (∀ g o n cap, v = .slice (some ⟨g, o, none⟩) n cap → ∀ j, j < xs.length → g < L j ∨ H j ≤ g) ∧ ∀ i j, i < j → j < xs.length → H i ≤ L j ∨ H j ≤ L i)
    (hx : ∀ j x cs, xs[j]? = some x → css[j]? = some cs → l ≤ L j ∧ H j ≤ h ∧ E.rep true (L j) (H j) w cs x) : (row E).rep true l h w [v] xs := by
  rcases id hr.2 with ⟨rfl, h0⟩ | ⟨g, cap, cur, rfl, hb, hg, hc, hcm, hs, ht⟩
  · have : xs = [] := List.eq_nil_of_length_eq_zero h0
    subst this
    exact row_nil _ _ _ _
  · refine ⟨some ⟨g, 0, none⟩, cap, rfl, hc, by unfold maxLen at hcm; omega, .inr ⟨g, 0, rfl, by omega, Nat.lt_of_lt_of_le (hr.lt g rfl).2 hh, fun _ j => hr.frozenAt j, fun j => css[j]?.getD [], L, H, fun _ => ⟨ho.1 g 0 _ _ rfl, ho.2⟩, fun j x hj => ?_⟩⟩
    have hjl : j < xs.length := (List.getElem?_eq_some_iff.1 hj).1
    have hcs : css[j]? = some css[j] := List.getElem?_eq_getElem (by omega)
    obtain ⟨q1, q2, q3⟩ := hx j x _ hj hcs
    have e : css[j]?.getD [] = css[j] := by rw [hcs]; rfl
    simp only [e]
    refine ⟨q1, q2, fun f c hfc => ?_, q3⟩
    have hf : f < E.wd := by rw [← E.len q3]; exact (List.getElem?_eq_some_iff.1 hfc).1
    rw [show 0 + j * E.wd + f = j * E.wd + f from by omega, hr.cellAt _ (idx_lt hjl hf), flat_at hd hcs hf]
    exact hfc
end Shape
end Go.Proofs.Yteekpdlkdpkegaa.L
