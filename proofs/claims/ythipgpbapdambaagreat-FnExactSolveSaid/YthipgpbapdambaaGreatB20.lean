/- B20: Nums2 Byts Bytes Bytes2 Bytes3 -/
import Derived.Test.YthipgpbapdambaaGreatB6
import Derived.OwnWalk
import Derived.Test.YthipgpbapdambaaGreatB1
import Derived.Maps.AppendAt
import Derived.Test.YthipgpbapdambaaGreatB4
set_option linter.unusedVariables false
set_option linter.unusedSimpArgs false
/- More on slices of numbers. -/
namespace Go.Proofs.YthipgpbapdambaaGreat.L
open Go.RowKit Go.Proofs.YthipgpbapdambaaGreat.S
set_option linter.unusedVariables false
set_option linter.unusedSimpArgs false

theorem cell_one_new' (w : World) (x : Value) (t : TypeId) : ∀ j u, [x][j]? = some u → (w.alloc (.cells #[x] t)).cell? ((⟨w.heap.size, 0, none⟩ : Addr).add j) = some u := by
 intro j u hj
 rw [Go.WideShapes.add_plain]
 match j, hj with
 | 0, hj => simp at hj; subst hj; rw [World.cell?_alloc_at _ _ _ _ rfl]; rfl
theorem Nums.mono {own : Bool} {l h l' h' : Nat} {w : World} {v : Value} {ts : List Int} (ht : Nums own l h w v ts) (h1' : l' ≤ l) (h2' : h ≤ h') : Nums own l' h' w v ts := by
 obtain ⟨a, cap, rfl, h1, h2, h3, h4⟩ := ht
 refine ⟨a, cap, rfl, h1, h2, h3, ?_⟩
 rcases h4 with h4 | ⟨b, off, e, hl, hlt, hf, hc⟩
 ·exact .inl h4
 ·exact .inr ⟨b, off, e, by omega, by omega, hf, hc⟩
end Go.Proofs.YthipgpbapdambaaGreat.L

/- Slices of bytes that a call has made: what they read as, comparison, marks. -/
namespace Go.Proofs.YthipgpbapdambaaGreat.L
open Go.RowKit Go.Proofs.YthipgpbapdambaaGreat.S
set_option linter.unusedVariables false
set_option linter.unusedSimpArgs false

/-- The slice v reads as the bytes xs, its row in a block from lo on and below hi; own: the row may be written. -/
def Byts (own : Bool) (lo hi : Nat) (w : World) (v : Value) (xs : List Int) : Prop :=
 ∃ a cap, v = .slice a xs.length cap ∧ xs.length ≤ cap ∧ cap ≤ 9223372036854775807 ∧ True ∧
  (xs = [] ∨ ∃ b off, a = some ⟨b, off, none⟩ ∧ lo ≤ b ∧ b < hi ∧ (own = true → ∀ j, w.frozen? ⟨b, j, none⟩ = false) ∧
   ∀ j x, xs[j]? = some x → w.cell? ⟨b, off + j, none⟩ = some (.int .u8 x))

theorem Byts.only {own : Bool} {lo hi l h : Nat} {w w' : World} {v : Value} {ts : List Int} (ht : Byts own l h w v ts) (ho : Only lo hi w w') (hd : h ≤ lo ∨ hi ≤ l) (hs : h ≤ w.heap.size) : Byts own l h w' v ts := by
 obtain ⟨a, cap, rfl, h1, h2, h3, h4⟩ := ht
 refine ⟨a, cap, rfl, h1, h2, h3, ?_⟩
 rcases h4 with h4 | ⟨b, off, e, hl, hlt, hf, hc⟩
 ·exact .inl h4
 ·have hb : b < w.heap.size := Nat.lt_of_lt_of_le hlt hs
  have hx : b < lo ∨ hi ≤ b := by omega
  exact .inr ⟨b, off, e, hl, hlt, fun hw j => by rw [ho.frozen hb hx]; exact hf hw j, fun j t hj => by rw [ho.cell hb hx]; exact hc j t hj⟩
theorem Byts.keep {own : Bool} {l h B : Nat} {w w' : World} {v : Value} {ts : List Int} (ht : Byts own l h w v ts) (hb : Below B w w') (hl : h ≤ B) : Byts own l h w' v ts := by
 obtain ⟨a, cap, rfl, h1, h2, h3, h4⟩ := ht
 refine ⟨a, cap, rfl, h1, h2, h3, ?_⟩
 rcases h4 with h4 | ⟨b, off, e, hlo, hlt, hf, hc⟩
 ·exact .inl h4
 ·have hx : b < B := Nat.lt_of_lt_of_le hlt hl
  exact .inr ⟨b, off, e, hlo, hlt, fun hw j => by rw [hb.frozen (p := ⟨b, j, none⟩) hx]; exact hf hw j, fun j t hj => by rw [hb.cell (p := ⟨b, off + j, none⟩) hx]; exact hc j t hj⟩
theorem Byts.nil (own : Bool) (l h : Nat) (w : World) : Byts own l h w (.slice none 0 0) [] := ⟨none, 0, rfl, Nat.le_refl _, by omega, trivial, .inl rfl⟩
theorem Byts.shape {own : Bool} {l h : Nat} {w : World} {v : Value} {ts : List Int} (ht : Byts own l h w v ts) : ∃ a cap, v = .slice a ts.length cap ∧ ts.length ≤ cap ∧ cap ≤ 9223372036854775807 := by
 obtain ⟨a, cap, e, h1, h2, _⟩ := ht
 exact ⟨a, cap, e, h1, h2⟩
theorem Byts.at {own : Bool} {l h : Nat} {w : World} {a : Option Addr} {len cap : Nat} {ts : List Int} (ht : Byts own l h w (.slice a len cap) ts) {k : Nat} (hk : k < ts.length) :
  ∃ b off, a = some ⟨b, off, none⟩ ∧ l ≤ b ∧ b < h ∧ w.cell? ⟨b, off + k, none⟩ = some (.int .u8 ts[k]) := by
 obtain ⟨a', cap', e, h1, h2, -, h4⟩ := ht
 simp only [Value.slice.injEq] at e
 obtain ⟨rfl, -, -⟩ := e
 rcases h4 with h4 | ⟨b, off, rfl, hl, hlt, -, hc⟩
 ·subst h4; simp at hk
 ·exact ⟨b, off, rfl, hl, hlt, hc k _ (List.getElem?_eq_getElem hk)⟩
theorem Byts.own {w : World} {base : Nat} {v : Value} {ts : List Int} (h : w.ownsRow base 5 1 v ts.length (ts.map (Value.int .u8)))   : Byts true base w.heap.size w v ts := by
 rcases h.2 with ⟨rfl, h0⟩ | ⟨g, cap, cur, rfl, hb, hg, hc, hcm, hs, ht⟩
 ·have : ts = [] := List.eq_nil_of_length_eq_zero h0
  subst this
  exact Byts.nil _ _ _ _
 ·refine ⟨some ⟨g, 0, none⟩, cap, rfl, hc, by unfold maxLen at hcm; omega, trivial, ?_⟩
  refine .inr ⟨g, 0, rfl, hb, (h.lt g rfl).2, fun _ j => h.frozenAt j, fun j t hj => ?_⟩
  have hjl : j < ts.length := (List.getElem?_eq_some_iff.1 hj).1
  rw [Nat.zero_add, h.cellAt j (by omega), List.getElem?_map, hj]
  rfl

theorem Byts.mono {own : Bool} {l h l' h' : Nat} {w : World} {v : Value} {ts : List Int} (ht : Byts own l h w v ts) (h1' : l' ≤ l) (h2' : h ≤ h') : Byts own l' h' w v ts := by
 obtain ⟨a, cap, rfl, h1, h2, h3, h4⟩ := ht
 refine ⟨a, cap, rfl, h1, h2, h3, ?_⟩
 rcases h4 with h4 | ⟨b, off, e, hl, hlt, hf, hc⟩
 ·exact .inl h4
 ·exact .inr ⟨b, off, e, by omega, by omega, hf, hc⟩

/-- What marking leaves: the lowest bytes of numbers that follow one another. -/
def marksB (k n : Nat) : List Int := (marksN k n).map (· % 256)
theorem marksB_length (k n : Nat) : (marksB k n).length = n := by simp [marksB, marksN_length]
def markedB (ts : List Int) (k j : Nat) : List Int := marksB k j ++ ts.drop j
theorem markedB_length (ts : List Int) (k j : Nat) (h : j ≤ ts.length) : (markedB ts k j).length = ts.length := by unfold markedB; simp [marksB_length]; omega
theorem markedB_set (ts : List Int) (k j : Nat) (h : j < ts.length) : (markedB ts k j).set j (((k + j : Nat) : Int) % 256) = markedB ts k (j + 1) := by
 unfold markedB
 rw [List.set_append_right _ _ (by rw [marksB_length]; exact Nat.le_refl _), marksB_length, Nat.sub_self, List.drop_eq_getElem_cons h, List.set_cons_zero]
 unfold marksB
 rw [marksN_snoc, List.map_append, List.append_assoc]
 rfl
theorem marksB_at (k n j : Nat) (h : j < n) : (marksB k n)[j]? = some (((k + j : Nat) : Int) % 256) := by unfold marksB; rw [List.getElem?_map, marksN_at k n j h]; rfl
theorem Byts.put {l h : Nat} {w : World} {b off n cap : Nat} {ts : List Int} (ht : Byts true l h w (.slice (some ⟨b, off, none⟩) n cap) ts) {k : Nat} (hk : k < ts.length) (x : Int) :
  Byts true l h (w.setCell ⟨b, off + k, none⟩ (.int .u8 x)) (.slice (some ⟨b, off, none⟩) n cap) (ts.set k x) := by
 obtain ⟨a', cap', e0, h1, h2, h3, h4⟩ := ht
 simp only [Value.slice.injEq] at e0
 obtain ⟨rfl, rfl, rfl⟩ := e0
 rcases h4 with h4 | ⟨b', off', e, hl, hlt, hf, hc⟩
 ·rw [h4] at hk; simp at hk
 ·simp only [Option.some.injEq, Addr.mk.injEq, and_true] at e
  obtain ⟨rfl, rfl⟩ := e
  have c0 := hc k _ (List.getElem?_eq_getElem hk)
  refine ⟨some ⟨b, off, none⟩, cap, by simp, by simpa using h1, h2, trivial, .inr ⟨b, off, rfl, hl, hlt, fun _ j => ?_, fun j t hj => ?_⟩⟩
  ·rw [World.frozen?_setCell]; exact hf rfl j
  ·by_cases hjk : j = k
   ·subst hjk
    rw [List.getElem?_set_self hk] at hj
    simp only [Option.some.injEq] at hj
    subst hj
    exact World.cell?_setCell_same _ _ _ c0
   ·rw [List.getElem?_set_ne (by omega)] at hj
    rw [World.cell?_setCell_other _ _ _ _ (by simp <;> omega)]; exact hc j t hj


end Go.Proofs.YthipgpbapdambaaGreat.L

/- Slices of bytes that a call makes: growth by appending; numbers in four bytes. -/
namespace Go.Proofs.YthipgpbapdambaaGreat.L
open Go.RowKit Go.Proofs.YthipgpbapdambaaGreat.S
set_option linter.unusedVariables false
set_option linter.unusedSimpArgs false

theorem byteInfo : (Tryz.prog.info? 5).map (fun i => (i.zero, i.size, i.bytes)) = some (some (.int .u8 0), 1, 1) := by kernel_rfl
/-- From w to w' only v's own row may have been written; v' lies in that row or in a new block. -/
structure Grew (w w' : World) (v v' : Value) : Prop where
 grown : w.grownBy w' v.ownBlock
 loc : v'.ownBlock = v.ownBlock ∨ ∃ g, v'.ownBlock = some g ∧ w.heap.size ≤ g
theorem Grew.refl (w : World) (v : Value) : Grew w w v v := ⟨⟨rfl, rfl, rfl, Nat.le_refl _, fun _ _ _ => rfl⟩, .inl rfl⟩
theorem Grew.trans {a b c : World} {u v x : Value} (h : Grew a b u v) (k : Grew b c v x) : Grew a c u x := by
 refine ⟨⟨k.grown.os.trans h.grown.os, k.grown.tape.trans h.grown.tape, k.grown.output.trans h.grown.output, Nat.le_trans h.grown.size k.grown.size, fun i hi hne => ?_⟩, ?_⟩
 ·rw [← h.grown.block i hi hne]
  refine k.grown.block i (Nat.lt_of_lt_of_le hi h.grown.size) ?_
  rcases h.loc with e | ⟨g, e, hg⟩
  ·rw [e]; exact hne
  ·rw [e]; intro q; simp only [Option.some.injEq] at q; omega
 ·rcases k.loc with e | ⟨g, e, hg⟩
  ·rw [e]; exact h.loc
  ·exact .inr ⟨g, e, Nat.le_trans h.grown.size hg⟩
theorem Grew.below {B base : Nat} {w w' : World} {v v' : Value} {e : TypeId} {size n : Nat} {xs : List Value} (h : Grew w w' v v') (hr : w.ownsRow base e size v n xs) (hb : B ≤ base) (hs : base ≤ w.heap.size) : Below B w w' :=
 (Below.refl B w).grown h.grown (Nat.le_trans hb hs) (fun j ej => Nat.le_trans hb (hr.lt j ej).1)
/-- A step that leaves all that was as it was, ahead. -/
theorem Grew.of_below {w w1 w' : World} {v v' : Value} (hb : Below w.heap.size w w1) (h : Grew w1 w' v v') : Grew w w' v v' := by
 refine ⟨⟨h.grown.os.trans hb.os, h.grown.tape.trans hb.tape, h.grown.output.trans hb.output, Nat.le_trans hb.size h.grown.size, fun i hi hne => ?_⟩, ?_⟩
 ·rw [← hb.block i hi]; exact h.grown.block i (Nat.lt_of_lt_of_le hi hb.size) hne
 ·rcases h.loc with e | ⟨g, e, hg⟩
  ·exact .inl e
  ·exact .inr ⟨g, e, Nat.le_trans hb.size hg⟩

def bv (bs : List Int) : List Value := bs.map (Value.int .u8)
theorem bv_append (a b : List Int) : bv (a ++ b) = bv a ++ bv b := by simp [bv]
theorem bv_length (a : List Int) : (bv a).length = a.length := by simp [bv]
/-- A number in four bytes. -/
def num4 (x : Int) : List Int := [x / 16777216, x / 65536 % 256, x / 256 % 256, x % 256]
theorem num4_length (x : Int) : (num4 x).length = 4 := rfl
theorem cells_new4 (w : World) (a b c d : Value) (t : TypeId) : ∀ j u, [a, b, c, d][j]? = some u → (w.alloc (.cells #[a, b, c, d] t)).cell? ((⟨w.heap.size, 0, none⟩ : Addr).add j) = some u := by
 intro j u hj
 rw [Go.WideShapes.add_plain]
 match j, hj with
 | 0, hj => simp at hj; subst hj; rw [World.cell?_alloc_at _ _ _ _ rfl]; rfl
 | 1, hj => simp at hj; subst hj; rw [World.cell?_alloc_at _ _ _ _ rfl]; rfl
 | 2, hj => simp at hj; subst hj; rw [World.cell?_alloc_at _ _ _ _ rfl]; rfl
 | 3, hj => simp at hj; subst hj; rw [World.cell?_alloc_at _ _ _ _ rfl]; rfl
/-- The result of a call that appends: the row grows by news. -/
def Adds (base : Nat) (w : World) (v : Value) (bs news : List Int) (e : Ending) (w' : World) : Prop :=
 ∃ v', e = .returned v' ∧ Grew w w' v v' ∧ w'.ownsRow base 5 1 v' (bs ++ news).length (bv (bs ++ news))
theorem Adds.mk {base : Nat} {w w1 w' : World} {v v' : Value} {bs news : List Int} {m : Nat} (hb : Below w.heap.size w w1) (hz : w1.heap.size = w.heap.size + 1) (hm : m = news.length) (hown : w'.ownsRow base 5 1 v' (bs.length + m) (bv bs ++ bv news)) (hg : w1.grownBy w' v.ownBlock)
  (hl : v'.ownBlock = v.ownBlock ∨ v'.ownBlock = some w1.heap.size) : Adds base w v bs news (.returned v') w' := by
 subst hm
 refine ⟨v', rfl, Grew.of_below hb ⟨hg, hl.imp id (fun h => ⟨_, h, Nat.le_refl _⟩)⟩, ?_⟩
 rw [List.length_append, bv_append]; exact hown

set_option maxRecDepth 100000 in
set_option maxHeartbeats 1600000 in
theorem l3num_any (base : Nat) (v : Value) (bs : List Int) (x : Int) (w : World) (hr : w.ownsRow base 5 1 v bs.length (bv bs)) (hb : base ≤ w.heap.size) (hn : bs.length ≤ 1099511627776) (x0 : 0 ≤ x) (x1 : x ≤ 4294967295) :
  Calls Tryz.prog 127 #[v, .int .i64 x] w (Adds base w v bs (num4 x)) := by
 obtain ⟨i0, hi0, hz0, hz1, hz2⟩ := info_parts byteInfo
 have bw : ∀ o, Below w.heap.size w (w.alloc o) := fun o => Below.alloc (Below.refl _ _) (Nat.le_refl _) o
 go_enter Tryz.func127, Tryz.ntmps127
 go_wp2_with (at_builtin; refine wpList_append_own_at _ rfl _ _ 43 rfl base 5 i0 (.int .u8 0) 1 1 Tryz.underlying43 hi0 hz0 hz1 hz2 rfl (by decide) _ _ _ rfl (hr.alloc _) ⟨w.heap.size, 0, none⟩ 4 4 (bv (num4 x)) rfl rfl (cells_new4 _ _ _ _ _ _) (by intro u hu; obtain ⟨y, _, rfl⟩ := List.mem_map.1 hu; rfl) (by unfold maxLen; omega) (by omega) (by simp; omega) ?_; intro v' w5 hown' hgrow hnil hloc)
 have fin := Adds.mk (bw _) (by simp) (num4_length x).symm hown' hgrow hloc
 clear hown' hgrow hnil hloc hr
 go_wp2_with fail
 go_ret
 exact fin
end Go.Proofs.YthipgpbapdambaaGreat.L

/- Combinations as bytes: the program's function and its model. -/
namespace Go.Proofs.YthipgpbapdambaaGreat.L
open Go.RowKit Go.Proofs.YthipgpbapdambaaGreat.S
set_option linter.unusedVariables false
set_option linter.unusedSimpArgs false

theorem Grew.cell {w w' : World} {v v' : Value} {b : Nat} (h : Grew w w' v v') (hb : b < w.heap.size) (hne : v.ownBlock ≠ some b) (o : Nat) : w'.cell? ⟨b, o, none⟩ = w.cell? ⟨b, o, none⟩ :=
 World.cell?_of_block (a := ⟨b, o, none⟩) (h.grown.block b hb (fun e => hne e.symm))
theorem own_ne {w : World} {base : Nat} {e : TypeId} {size n : Nat} {v : Value} {xs : List Value} (hr : w.ownsRow base e size v n xs) {b : Nat} (hb : w.heap.size ≤ b ∨ b < base) : v.ownBlock ≠ some b := fun q => by
 have := hr.lt b q; omega

theorem Grew.ne {w w' : World} {v v' : Value} {b : Nat} (h : Grew w w' v v') (hb : b < w.heap.size) (hne : v.ownBlock ≠ some b) : v'.ownBlock ≠ some b := by
 rcases h.loc with e | ⟨g, e, hg⟩
 ·rw [e]; exact hne
 ·rw [e]; intro q; simp only [Option.some.injEq] at q; omega

def termBytes (t : T) : List Int := num4 t.1 ++ num4 t.2
def termsBytes (ts : List T) : List Int := ts.flatMap termBytes
def linBytes (ts : List T) : List Int := num4 ts.length ++ termsBytes ts
theorem termsBytes_length (ts : List T) : (termsBytes ts).length = 8 * ts.length := by
 induction ts with
 | nil => rfl
 | cons t r ih => simp only [termsBytes, List.flatMap_cons, List.length_append] at *; rw [ih]; simp [termBytes, num4]; omega
theorem termsBytes_step {ts : List T} {k : Nat} {x y : Int} (h : ts[k]? = some (x, y)) : termsBytes (ts.take (k + 1)) = termsBytes (ts.take k) ++ num4 x ++ num4 y := by
 rw [take_step h]; simp [termsBytes, termBytes]
/-- The numbers of the terms fit into four bytes. -/
def Four (ts : List T) : Prop := ∀ t ∈ ts, (0 ≤ t.1 ∧ t.1 ≤ 4294967295) ∧ (0 ≤ t.2 ∧ t.2 ≤ 4294967295)

set_option maxRecDepth 100000 in
set_option maxHeartbeats 3200000 in
theorem l3lin_any (base : Nat) (v : Value) (bs : List Int) (o l h u) (ts : List T) (w : World) (hr : w.ownsRow base 5 1 v bs.length (bv bs)) (hb : base ≤ w.heap.size) (t : Terms o l h w u ts) (hh : h ≤ base) (h4 : Four ts) (nt : ts.length ≤ 1048576) (hn : bs.length + 8 * ts.length ≤ 1000000000000) :
  Calls Tryz.prog 128 #[v, .agg #[u]] w (Adds base w v bs (linBytes ts)) := by
 obtain ⟨a, ca, rfl, la, ba⟩ := t.shape
 have H4 := Lib.hid h4
 clear h4
 go_enter Tryz.func128, Tryz.ntmps128
 go_wp2_with fail
 refine name_call fun w1 hw1 => ?_
 have b1 : Below w.heap.size w w1 := by rw [hw1]; (repeat (with_reducible first | exact bR _ _ | assumption | refine bD ?_ | refine bN ?_ _ | refine bA ?_ _ | refine bS ?_ _))
 have z1 : w1.heap.size = w.heap.size + 1 := by rw [hw1]; simp
 have cA : w1.cell? ⟨w.heap.size, 0, none⟩ = some (.slice a ts.length ca) := by rw [hw1]; first | (simp; done) | go_simp
 have hr1 := row_keep hr b1
 clear hw1
 refine (l3num_any base v bs (ts.length : Int) w1 hr1 (by omega) (by omega) (by omega) (by omega)).mono ?_; rintro e w2 ⟨v2, rfl, g2, r2⟩
 have z2 := g2.grown.size
 have cA2 := (g2.cell (by omega) (own_ne hr (.inl (Nat.le_refl _))) 0).trans cA
 have G2 := Grew.of_below b1 g2
 have lw2 : w.heap.size < w2.heap.size := by omega
 have ne2 := g2.ne (b := w.heap.size) (by omega) (own_ne hr (.inl (Nat.le_refl _)))
 clear cA g2 hr1
 go_wp2_with fail
 go_loopw [0, 5] (fun b i wr => ∃ k : Nat, k ≤ ts.length ∧ i = .int .i64 k ∧ Grew w wr v b ∧ w.heap.size < wr.heap.size ∧ (b.ownBlock ≠ some w.heap.size) ∧ wr.cell? ⟨w.heap.size, 0, none⟩ = some (.slice a ts.length ca) ∧ wr.ownsRow base 5 1 b (bs ++ (num4 (ts.length : Int) ++ termsBytes (ts.take k))).length (bv (bs ++ (num4 (ts.length : Int) ++ termsBytes (ts.take k))))) (fun _ i _ => ts.length - (intOf i).toNat)
 case atStart => exact ⟨0, Nat.zero_le _, rfl, G2, lw2, ne2, cA2, by simpa [termsBytes] using r2⟩
 case round =>
  obtain ⟨k, hk, rfl, G, zz, ne, cb, row⟩ := hrel
  clear G2 r2 cA2 ne2
  have be := G.below hr (Nat.le_refl base) hb
  by_cases hlt : k < ts.length
  ·obtain ⟨b, off, x, y, rfl, l1, m1, c0, c1, e1, _⟩ := (t.keep be hh).at hlt
   obtain ⟨⟨x0, x1⟩, y0, y1⟩ := H4.out (x, y) (List.mem_of_getElem? e1)
   have HT := Lib.hid (termsBytes_step e1)
   have hlen : (bs ++ (num4 (ts.length : Int) ++ termsBytes (ts.take k))).length ≤ 1000000001000 := by
    rw [List.length_append, List.length_append, termsBytes_length, num4_length]; simp; omega
   obtain ⟨F, hF⟩ : ∃ F, F = bs ++ (num4 (ts.length : Int) ++ termsBytes (ts.take k)) := ⟨_, rfl⟩
   rw [← hF] at row hlen
   have HE : Hid (bs ++ (num4 (ts.length : Int) ++ termsBytes (ts.take (k + 1))) = F ++ num4 x ++ num4 y) := Lib.hid (by rw [HT.out, hF]; simp [List.append_assoc])
   clear e1 hF
   have dd : Below wr.heap.size wr wr.drew := (Below.refl _ _).drew
   have zd : wr.heap.size ≤ wr.drew.heap.size := Nat.le_refl _
   have ze : wr.drew.heap.size ≤ wr.heap.size := Nat.le_refl _
   have bl : b < wr.heap.size := World.block_lt_of_cell? _ _ c0
   have gb := cell_keep dd cb
   have g0 := cell_keep dd c0
   have g1 := cell_keep dd c1
   have rowd := row_keep row dd
   have nb := own_ne row (b := b) (.inr (by omega))
   clear c0 c1 row
   go_wp2_with fail
   go_region_held3 (fun w' => w'.cell? ⟨w.heap.size, 0, none⟩ = some (.slice (some ⟨b, off, none⟩) ts.length ca) ∧ w'.cell? ⟨b, off + k * 2, none⟩ = some (.int .i64 x) ∧ w'.cell? ⟨b, off + k * 2 + 1, none⟩ = some (.int .i64 y))
    (first | exact ⟨gb, g0, g1⟩ | exact ⟨(gr4.cell (by omega) ne 0).trans gb, (gr4.cell (by omega) nb _).trans g0, (gr4.cell (by omega) nb _).trans g1⟩ | exact ⟨((gr4.trans gr5).cell (by omega) ne 0).trans gb, ((gr4.trans gr5).cell (by omega) nb _).trans g0, ((gr4.trans gr5).cell (by omega) nb _).trans g1⟩)
    (first
     | (go_at_call 127; (with_reducible refine (l3num_any base _ F x wr.drew rowd (by omega) (by omega) x0 x1).mono ?_); rintro e w4 ⟨v4, rfl, gr4, r4⟩; have z4 := gr4.grown.size; have hlen4 : (F ++ num4 x).length ≤ 1000000001004 := by rw [List.length_append, num4_length]; omega)
     | (go_at_call 127; (with_reducible refine (l3num_any base v4 (F ++ num4 x) y w4 r4 (by omega) (by omega) y0 y1).mono ?_); rintro e w5 ⟨v5, rfl, gr5, r5⟩; have z5 := gr5.grown.size))
   have G5 := G.trans (Grew.of_below dd (gr4.trans gr5))
   have n5 := (gr4.trans gr5).ne (b := w.heap.size) (by omega) ne
   have c5 := ((gr4.trans gr5).cell (b := w.heap.size) (by omega) ne 0).trans gb
   clear gr4 gr5 r4 gb g0 g1 rowd cb
   go_wp2_with fail
   go_roundw
   case rel => exact ⟨k + 1, by omega, by go_num, G5, by omega, n5, c5, by rw [HE.out]; exact r5⟩
   case measure => simp [intOf]; omega
  ·obtain rfl : k = ts.length := by omega
   rw [List.take_length] at row
   have fin : Adds base w v bs (linBytes ts) (.returned _) _ := ⟨_, rfl, G, row⟩
   clear row
   go_wp2_with fail
   go_ret
   exact fin
end Go.Proofs.YthipgpbapdambaaGreat.L

/- Hints and constraints as bytes: the program's functions. -/
namespace Go.Proofs.YthipgpbapdambaaGreat.L
open Go.RowKit Go.Proofs.YthipgpbapdambaaGreat.S
set_option linter.unusedVariables false
set_option linter.unusedSimpArgs false

def hintBytes (x : HintC) : List Int := [x.kind] ++ linBytes x.a ++ linBytes x.b ++ num4 x.k
def conBytes (c : ConC) : List Int := linBytes c.a ++ linBytes c.b ++ linBytes c.c
theorem linBytes_length (ts : List T) : (linBytes ts).length = 4 + 8 * ts.length := by unfold linBytes; rw [List.length_append, num4_length, termsBytes_length]

end Go.Proofs.YthipgpbapdambaaGreat.L
