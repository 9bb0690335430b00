/- Combinations as bytes: the program's function and its model. -/
import Derived.Test.YtghjcedhoeoiiaaBytes
import Derived.Test.YtghjcedhoeoiiaaB4
namespace Go.Proofs.Ytghjcedhoeoiiaa.L
open Go.RowKit Go.Proofs.Ytghjcedhoeoiiaa.S
set_option linter.unusedVariables false
set_option linter.unusedSimpArgs false

theorem Grew.cell {w w' : World} {v v' : Value} {b : Nat} (h : Grew w w' v v') (hb : b < w.heap.size) (hne : v.ownBlock ≠ some b) (o : Nat) : w'.cell? ⟨b, o, none⟩ = w.cell? ⟨b, o, none⟩ :=
  World.cell?_of_block (a := ⟨b, o, none⟩) (h.grown.block b hb (fun e => hne e.symm))
theorem own_ne {w : World} {base : Nat} {e : TypeId} {size n : Nat} {v : Value} {xs : List Value} (hr : w.ownsRow base e size v n xs) {b : Nat} (hb : w.heap.size ≤ b ∨ b < base) : v.ownBlock ≠ some b := fun q => by
  have := hr.lt b q; omega

theorem Grew.ne {w w' : World} {v v' : Value} {b : Nat} (h : Grew w w' v v') (hb : b < w.heap.size) (hne : v.ownBlock ≠ some b) : v'.ownBlock ≠ some b := by
  rcases h.loc with e | ⟨g, e, hg⟩
  · rw [e]; exact hne
  · rw [e]; intro q; simp only [Option.some.injEq] at q; omega

def termBytes (t : T) : List Int := num4 t.1 ++ num4 t.2
def termsBytes (ts : List T) : List Int := ts.flatMap termBytes
def linBytes (ts : List T) : List Int := num4 ts.length ++ termsBytes ts
theorem termsBytes_length (ts : List T) : (termsBytes ts).length = 8 * ts.length := by
  induction ts with
  | nil => rfl
  | cons t r ih => simp only [termsBytes, List.flatMap_cons, List.length_append] at *; rw [ih]; simp [termBytes, num4]; omega
theorem termsBytes_step {ts : List T} {k : Nat} {x y : Int} (h : ts[k]? = some (x, y)) : termsBytes (ts.take (k + 1)) = termsBytes (ts.take k) ++ num4 x ++ num4 y := by
  rw [take_step h]; simp [termsBytes, termBytes]
/-- The numbers of the terms fit into four bytes. -/
def Four (ts : List T) : Prop := ∀ t ∈ ts, (0 ≤ t.1 ∧ t.1 ≤ 4294967295) ∧ (0 ≤ t.2 ∧ t.2 ≤ 4294967295)

set_option maxRecDepth 100000 in
set_option maxHeartbeats 3200000 in
theorem l3lin_any (base : Nat) (v : Value) (bs : List Int) (o l h u) (ts : List T) (w : World) (hr : w.ownsRow base 5 1 v bs.length (bv bs)) (hb : base ≤ w.heap.size) (t : Terms o l h w u ts) (hh : h ≤ base) (h4 : Four ts) (nt : ts.length ≤ 1048576) (hn : bs.length + 8 * ts.length ≤ 1000000000000) :
    Calls Try.prog 103 #[v, .agg #[u]] w (Adds base w v bs (linBytes ts)) := by
  obtain ⟨a, ca, rfl, la, ba⟩ := t.shape
  have H4 := Lib.hid h4
  clear h4
  go_enter Try.func103, Try.ntmps103
  go_wp2_with fail
  refine name_call fun w1 hw1 => ?_
  have b1 : Below w.heap.size w w1 := by rw [hw1]; (repeat (with_reducible first | exact bR _ _ | assumption | refine bD ?_ | refine bN ?_ _ | refine bA ?_ _ | refine bS ?_ _))
  have z1 : w1.heap.size = w.heap.size + 1 := by rw [hw1]; simp
  have cA : w1.cell? ⟨w.heap.size, 0, none⟩ = some (.slice a ts.length ca) := by rw [hw1]; first | (simp; done) | go_simp
  have hr1 := row_keep hr b1
  clear hw1
  refine (l3num_any base v bs (ts.length : Int) w1 hr1 (by omega) (by omega) (by omega) (by omega)).mono ?_; rintro e w2 ⟨v2, rfl, g2, r2⟩
  have z2 := g2.grown.size
  have cA2 := (g2.cell (by omega) (own_ne hr (.inl (Nat.le_refl _))) 0).trans cA
  have G2 := Grew.of_below b1 g2
  have lw2 : w.heap.size < w2.heap.size := by omega
  have ne2 := g2.ne (b := w.heap.size) (by omega) (own_ne hr (.inl (Nat.le_refl _)))
  clear cA g2 hr1
  go_wp2_with fail
  go_loopw [0, 5] (fun b i wr => ∃ k : Nat, k ≤ ts.length ∧ i = .int .i64 k ∧ Grew w wr v b ∧ w.heap.size < wr.heap.size ∧ (b.ownBlock ≠ some w.heap.size) ∧ wr.cell? ⟨w.heap.size, 0, none⟩ = some (.slice a ts.length ca) ∧ wr.ownsRow base 5 1 b (bs ++ (num4 (ts.length : Int) ++ termsBytes (ts.take k))).length (bv (bs ++ (num4 (ts.length : Int) ++ termsBytes (ts.take k))))) (fun _ i _ => ts.length - (intOf i).toNat)
  case atStart => exact ⟨0, Nat.zero_le _, rfl, G2, lw2, ne2, cA2, by simpa [termsBytes] using r2⟩
  case round =>
    obtain ⟨k, hk, rfl, G, zz, ne, cb, row⟩ := hrel
    clear G2 r2 cA2 ne2
    have be := G.below hr (Nat.le_refl base) hb
    by_cases hlt : k < ts.length
    · obtain ⟨b, off, x, y, rfl, l1, m1, c0, c1, e1, _⟩ := (t.keep be hh).at hlt
      obtain ⟨⟨x0, x1⟩, y0, y1⟩ := H4.out (x, y) (List.mem_of_getElem? e1)
      have HT := Lib.hid (termsBytes_step e1)
      have hlen : (bs ++ (num4 (ts.length : Int) ++ termsBytes (ts.take k))).length ≤ 1000000001000 := by
        rw [List.length_append, List.length_append, termsBytes_length, num4_length]; simp; omega
      obtain ⟨F, hF⟩ : ∃ F, F = bs ++ (num4 (ts.length : Int) ++ termsBytes (ts.take k)) := ⟨_, rfl⟩
      rw [← hF] at row hlen
      have HE : Hid (bs ++ (num4 (ts.length : Int) ++ termsBytes (ts.take (k + 1))) = F ++ num4 x ++ num4 y) := Lib.hid (by rw [HT.out, hF]; simp [List.append_assoc])
      clear e1 hF
      have dd : Below wr.heap.size wr wr.drew := (Below.refl _ _).drew
      have zd : wr.heap.size ≤ wr.drew.heap.size := Nat.le_refl _
      have ze : wr.drew.heap.size ≤ wr.heap.size := Nat.le_refl _
      have bl : b < wr.heap.size := World.block_lt_of_cell? _ _ c0
      have gb := cell_keep dd cb
      have g0 := cell_keep dd c0
      have g1 := cell_keep dd c1
      have rowd := row_keep row dd
      have nb := own_ne row (b := b) (.inr (by omega))
      clear c0 c1 row
      go_wp2_with fail
      go_region_held3 (fun w' => w'.cell? ⟨w.heap.size, 0, none⟩ = some (.slice (some ⟨b, off, none⟩) ts.length ca) ∧ w'.cell? ⟨b, off + k * 2, none⟩ = some (.int .i64 x) ∧ w'.cell? ⟨b, off + k * 2 + 1, none⟩ = some (.int .i64 y))
        (first | exact ⟨gb, g0, g1⟩ | exact ⟨(gr4.cell (by omega) ne 0).trans gb, (gr4.cell (by omega) nb _).trans g0, (gr4.cell (by omega) nb _).trans g1⟩ | exact ⟨((gr4.trans gr5).cell (by omega) ne 0).trans gb, ((gr4.trans gr5).cell (by omega) nb _).trans g0, ((gr4.trans gr5).cell (by omega) nb _).trans g1⟩)
        (first
          | (go_at_call 102; (with_reducible refine (l3num_any base _ F x wr.drew rowd (by omega) (by omega) x0 x1).mono ?_); rintro e w4 ⟨v4, rfl, gr4, r4⟩; have z4 := gr4.grown.size; have hlen4 : (F ++ num4 x).length ≤ 1000000001004 := by rw [List.length_append, num4_length]; omega)
          | (go_at_call 102; (with_reducible refine (l3num_any base v4 (F ++ num4 x) y w4 r4 (by omega) (by omega) y0 y1).mono ?_); rintro e w5 ⟨v5, rfl, gr5, r5⟩; have z5 := gr5.grown.size))
      have G5 := G.trans (Grew.of_below dd (gr4.trans gr5))
      have n5 := (gr4.trans gr5).ne (b := w.heap.size) (by omega) ne
      have c5 := ((gr4.trans gr5).cell (b := w.heap.size) (by omega) ne 0).trans gb
      clear gr4 gr5 r4 gb g0 g1 rowd cb
      go_wp2_with fail
      go_roundw
      case rel => exact ⟨k + 1, by omega, by go_num, G5, by omega, n5, c5, by rw [HE.out]; exact r5⟩
      case measure => simp [intOf]; omega
    · obtain rfl : k = ts.length := by omega
      rw [List.take_length] at row
      have fin : Adds base w v bs (linBytes ts) (.returned _) _ := ⟨_, rfl, G, row⟩
      clear row
      go_wp2_with fail
      go_ret
      exact fin
end Go.Proofs.Ytghjcedhoeoiiaa.L
