/- Slices of terms: what they read as; sizes, copies, comparison, marks. -/
import Derived.Test.YteekpdlkdpkegaaSlices
import Derived.Deep.RegionHeld3
namespace Go.Proofs.Yteekpdlkdpkegaa.L
open Go.RowKit Go.Proofs.Yteekpdlkdpkegaa.S
set_option linter.unusedVariables false
set_option linter.unusedSimpArgs false

abbrev T := Int × Int

/-- The slice v reads as the terms ts, its row in a block from lo on and below hi; own: the row may be written. -/
def Terms (own : Bool) (lo hi : Nat) (w : World) (v : Value) (ts : List T) : Prop :=
  ∃ a cap, v = .slice a ts.length cap ∧ ts.length ≤ cap ∧ cap ≤ 9223372036854775807 ∧ (∀ t ∈ ts, Fits t.1 ∧ Fits t.2) ∧
    (ts = [] ∨ ∃ b off, a = some ⟨b, off, none⟩ ∧ lo ≤ b ∧ b < hi ∧ (own = true → ∀ j, w.frozen? ⟨b, j, none⟩ = false) ∧
      ∀ j t, ts[j]? = some t → w.cell? ⟨b, off + j * 2, none⟩ = some (.int .i64 t.1) ∧ w.cell? ⟨b, off + j * 2 + 1, none⟩ = some (.int .i64 t.2))

/-- From w to w' only blocks from lo on and below hi may have been written; new ones may have come. -/
structure Only (lo hi : Nat) (w w' : World) : Prop where
  os : w'.os = w.os
  tape : w'.tape = w.tape
  output : w'.output = w.output
  size : w.heap.size ≤ w'.heap.size
  block : ∀ k, k < w.heap.size → (k < lo ∨ hi ≤ k) → w'.heap[k]? = w.heap[k]?

theorem bdrewN {B : Nat} {a w : World} (h : Below B a w) (n : Nat) : Below B a (w.drewN n) := ⟨h.os, h.tape, h.output, h.size, h.block⟩
theorem bset {B : Nat} {a w : World} {p : Addr} (hs : B ≤ p.block) (h : Below B a w) (u : Value) : Below B a (w.setCell p u) := h.setCell hs u
theorem balloc {B : Nat} {a w : World} (hs : B ≤ w.heap.size) (h : Below B a w) (o : Obj) : Below B a (w.alloc o) := h.alloc hs o
theorem Only.refl (lo hi : Nat) (w : World) : Only lo hi w w := ⟨rfl, rfl, rfl, Nat.le_refl _, fun _ _ _ => rfl⟩
theorem Only.trans {lo hi : Nat} {a b c : World} (h : Only lo hi a b) (k : Only lo hi b c) : Only lo hi a c :=
  ⟨k.os.trans h.os, k.tape.trans h.tape, k.output.trans h.output, Nat.le_trans h.size k.size, fun i hi ho => (k.block i (Nat.lt_of_lt_of_le hi h.size) ho).trans (h.block i hi ho)⟩
theorem Only.of_below {lo hi B : Nat} {w w' : World} (h : Below B w w') (hB : w.heap.size ≤ B) : Only lo hi w w' :=
  ⟨h.os, h.tape, h.output, h.size, fun k hk _ => h.block k (Nat.lt_of_lt_of_le hk hB)⟩
theorem Only.below {lo hi B : Nat} {w w' : World} (h : Only lo hi w w') (hB : B ≤ lo) (hs : B ≤ w.heap.size) : Below B w w' :=
  ⟨h.os, h.tape, h.output, h.size, fun k hk => h.block k (Nat.lt_of_lt_of_le hk hs) (.inl (Nat.lt_of_lt_of_le hk hB))⟩
theorem Only.wide {lo hi lo' hi' : Nat} {w w' : World} (h : Only lo hi w w') (h1 : lo' ≤ lo) (h2 : hi ≤ hi') : Only lo' hi' w w' :=
  ⟨h.os, h.tape, h.output, h.size, fun k hk ho => h.block k hk (by omega)⟩
theorem Only.setCell {lo hi : Nat} {a w : World} (h : Only lo hi a w) {p : Addr} (h1 : lo ≤ p.block) (h2 : p.block < hi) (u : Value) : Only lo hi a (w.setCell p u) :=
  h.trans ⟨rfl, rfl, rfl, by simp [World.setCell], fun k hk ho => Below.heap_setCell _ _ _ _ (by omega)⟩
theorem oset {lo hi : Nat} {a w : World} {p : Addr} (h1 : lo ≤ p.block) (h2 : p.block < hi) (h : Only lo hi a w) (u : Value) : Only lo hi a (w.setCell p u) := h.setCell h1 h2 u
theorem Only.alloc {lo hi : Nat} {a w : World} (h : Only lo hi a w) (o : Obj) : Only lo hi a (w.alloc o) :=
  h.trans ⟨rfl, rfl, rfl, by simp, fun k hk ho => Below.heap_alloc _ _ _ hk⟩
theorem Only.drew {lo hi : Nat} {a w : World} (h : Only lo hi a w) : Only lo hi a w.drew := ⟨h.os, h.tape, h.output, h.size, h.block⟩
theorem odrewN {lo hi : Nat} {a w : World} (h : Only lo hi a w) (n : Nat) : Only lo hi a (w.drewN n) := ⟨h.os, h.tape, h.output, h.size, h.block⟩
theorem Only.cell {lo hi : Nat} {w w' : World} (h : Only lo hi w w') {b : Nat} (hb : b < w.heap.size) (ho : b < lo ∨ hi ≤ b) (j : Nat) : w'.cell? ⟨b, j, none⟩ = w.cell? ⟨b, j, none⟩ :=
  World.cell?_of_block (a := ⟨b, j, none⟩) (h.block b hb ho)
theorem Only.frozen {lo hi : Nat} {w w' : World} (h : Only lo hi w w') {b : Nat} (hb : b < w.heap.size) (ho : b < lo ∨ hi ≤ b) (j : Nat) : w'.frozen? ⟨b, j, none⟩ = w.frozen? ⟨b, j, none⟩ :=
  World.frozen?_of_block (a := ⟨b, j, none⟩) (h.block b hb ho)

theorem Terms.only {own : Bool} {lo hi l h : Nat} {w w' : World} {v : Value} {ts : List T} (ht : Terms own l h w v ts) (ho : Only lo hi w w') (hd : h ≤ lo ∨ hi ≤ l) (hs : h ≤ w.heap.size) : Terms own l h w' v ts := by
  obtain ⟨a, cap, rfl, h1, h2, h3, h4⟩ := ht
  refine ⟨a, cap, rfl, h1, h2, h3, ?_⟩
  rcases h4 with h4 | ⟨b, off, e, hl, hlt, hf, hc⟩
  · exact .inl h4
  · have hb : b < w.heap.size := Nat.lt_of_lt_of_le hlt hs
    have hx : b < lo ∨ hi ≤ b := by omega
    exact .inr ⟨b, off, e, hl, hlt, fun hw j => by rw [ho.frozen hb hx]; exact hf hw j, fun j t hj => by rw [ho.cell hb hx, ho.cell hb hx]; exact hc j t hj⟩
theorem Terms.keep {own : Bool} {l h B : Nat} {w w' : World} {v : Value} {ts : List T} (ht : Terms own l h w v ts) (hb : Below B w w') (hl : h ≤ B) : Terms own l h w' v ts := by
  obtain ⟨a, cap, rfl, h1, h2, h3, h4⟩ := ht
  refine ⟨a, cap, rfl, h1, h2, h3, ?_⟩
  rcases h4 with h4 | ⟨b, off, e, hlo, hlt, hf, hc⟩
  · exact .inl h4
  · have hx : b < B := Nat.lt_of_lt_of_le hlt hl
    exact .inr ⟨b, off, e, hlo, hlt, fun hw j => by rw [hb.frozen (p := ⟨b, j, none⟩) hx]; exact hf hw j, fun j t hj => by rw [hb.cell (p := ⟨b, off + j * 2, none⟩) hx, hb.cell (p := ⟨b, off + j * 2 + 1, none⟩) hx]; exact hc j t hj⟩
theorem Terms.mono {own : Bool} {l h l' h' : Nat} {w : World} {v : Value} {ts : List T} (ht : Terms own l h w v ts) (h1' : l' ≤ l) (h2' : h ≤ h') : Terms own l' h' w v ts := by
  obtain ⟨a, cap, rfl, h1, h2, h3, h4⟩ := ht
  refine ⟨a, cap, rfl, h1, h2, h3, ?_⟩
  rcases h4 with h4 | ⟨b, off, e, hl, hlt, hf, hc⟩
  · exact .inl h4
  · exact .inr ⟨b, off, e, by omega, by omega, hf, hc⟩
theorem Terms.unown {own : Bool} {l h : Nat} {w : World} {v : Value} {ts : List T} (ht : Terms own l h w v ts) : Terms false l h w v ts := by
  obtain ⟨a, cap, rfl, h1, h2, h3, h4⟩ := ht
  refine ⟨a, cap, rfl, h1, h2, h3, ?_⟩
  rcases h4 with h4 | ⟨b, off, e, hl, hlt, hf, hc⟩
  · exact .inl h4
  · exact .inr ⟨b, off, e, hl, hlt, fun h => (by cases h), hc⟩
theorem Terms.nil (own : Bool) (l h : Nat) (w : World) : Terms own l h w (.slice none 0 0) [] := ⟨none, 0, rfl, Nat.le_refl _, by omega, by simp, .inl rfl⟩

theorem Terms.shape {own : Bool} {l h : Nat} {w : World} {v : Value} {ts : List T} (ht : Terms own l h w v ts) : ∃ a cap, v = .slice a ts.length cap ∧ ts.length ≤ cap ∧ cap ≤ 9223372036854775807 := by
  obtain ⟨a, cap, e, h1, h2, _⟩ := ht
  exact ⟨a, cap, e, h1, h2⟩
theorem Terms.fits {own : Bool} {l h : Nat} {w : World} {v : Value} {ts : List T} (ht : Terms own l h w v ts) : ∀ t ∈ ts, Fits t.1 ∧ Fits t.2 := by
  obtain ⟨_, _, _, _, _, h, _⟩ := ht
  exact h

theorem Terms.at {own : Bool} {l h : Nat} {w : World} {a : Option Addr} {len cap : Nat} {ts : List T} (ht : Terms own l h w (.slice a len cap) ts) {k : Nat} (hk : k < ts.length) :
    ∃ b off x y, a = some ⟨b, off, none⟩ ∧ l ≤ b ∧ b < h ∧ w.cell? ⟨b, off + k * 2, none⟩ = some (.int .i64 x) ∧ w.cell? ⟨b, off + k * 2 + 1, none⟩ = some (.int .i64 y) ∧ ts[k]? = some (x, y) ∧ Fits x ∧ Fits y := by
  obtain ⟨a', cap', e, h1, h2, h3, h4⟩ := ht
  simp only [Value.slice.injEq] at e
  obtain ⟨rfl, _, rfl⟩ := e
  rcases h4 with h4 | ⟨b, off, e, hl, hlt, _, hc⟩
  · subst h4; simp at hk
  · obtain ⟨c0, c1⟩ := hc k _ (List.getElem?_eq_getElem hk)
    exact ⟨b, off, ts[k].1, ts[k].2, e, hl, hlt, c0, c1, List.getElem?_eq_getElem hk, h3 _ (List.getElem_mem hk)⟩

set_option maxHeartbeats 400000 in
theorem toTerm_any (x y : Int) (w : World) :
    Calls Try.prog 117 #[.agg #[.int .i64 x, .int .i64 y]] w fun e w' => e = .returned (.agg #[.int .i64 x, .int .i64 y]) ∧ Below w.heap.size w w' := by
  go_enter Try.func117, Try.ntmps117
  go_wp2_with fail
  exact bodyPost_ret (v := .agg #[.int .i64 x, .int .i64 y]) (by simp [results, Try.results117, go_sem]) rfl ⟨rfl, by (repeat (first | with_reducible exact Below.refl _ _ | with_reducible assumption | with_reducible refine Below.drew ?_ | with_reducible refine bdrewN ?_ _ | ((with_reducible refine balloc ?_ ?_ _); (focus (first | with_reducible exact Nat.le_refl _ | (simp; done) | omega | (simp; omega) | exact Nat.le_refl _))) | ((with_reducible refine bset ?_ ?_ _); (focus (first | with_reducible exact Nat.le_refl _ | (simp; done) | omega | (simp; omega) | exact Nat.le_refl _)))))⟩

set_option maxHeartbeats 400000 in
theorem eqTerm_any (x y u v : Int) (w : World) :
    Calls Try.prog 125 #[.agg #[.int .i64 x, .int .i64 y], .agg #[.int .i64 u, .int .i64 v]] w fun e w' => e = .returned (.bool (decide (x = u ∧ y = v))) ∧ Below w.heap.size w w' := by
  by_cases h1 : x = u
  · by_cases h2 : y = v
    · have b1 : (x != u) = false := by simp [h1]
      have b2 : (y != v) = false := by simp [h2]
      have H : Hid (decide (x = u ∧ y = v) = true) := Lib.hid (by simp [h1, h2])
      clear h1 h2
      go_enter Try.func125, Try.ntmps125
      go_wp2_with fail
      go_ret
      exact ⟨ret_bool H.out.symm, by (repeat (first | with_reducible exact Below.refl _ _ | with_reducible assumption | with_reducible refine Below.drew ?_ | with_reducible refine bdrewN ?_ _ | ((with_reducible refine balloc ?_ ?_ _); (focus (first | with_reducible exact Nat.le_refl _ | (simp; done) | omega | (simp; omega) | exact Nat.le_refl _))) | ((with_reducible refine bset ?_ ?_ _); (focus (first | with_reducible exact Nat.le_refl _ | (simp; done) | omega | (simp; omega) | exact Nat.le_refl _)))))⟩
    · have b1 : (x != u) = false := by simp [h1]
      have b2 : (y != v) = true := by simp [h2]
      have H : Hid (decide (x = u ∧ y = v) = false) := Lib.hid (by simp [h2])
      clear h1 h2
      go_enter Try.func125, Try.ntmps125
      go_wp2_with fail
      go_ret
      exact ⟨ret_bool H.out.symm, by (repeat (first | with_reducible exact Below.refl _ _ | with_reducible assumption | with_reducible refine Below.drew ?_ | with_reducible refine bdrewN ?_ _ | ((with_reducible refine balloc ?_ ?_ _); (focus (first | with_reducible exact Nat.le_refl _ | (simp; done) | omega | (simp; omega) | exact Nat.le_refl _))) | ((with_reducible refine bset ?_ ?_ _); (focus (first | with_reducible exact Nat.le_refl _ | (simp; done) | omega | (simp; omega) | exact Nat.le_refl _)))))⟩
  · have b1 : (x != u) = true := by simp [h1]
    have H : Hid (decide (x = u ∧ y = v) = false) := Lib.hid (by simp [h1])
    clear h1
    go_enter Try.func125, Try.ntmps125
    go_wp2_with fail
    go_ret
    exact ⟨ret_bool H.out.symm, by (repeat (first | with_reducible exact Below.refl _ _ | with_reducible assumption | with_reducible refine Below.drew ?_ | with_reducible refine bdrewN ?_ _ | ((with_reducible refine balloc ?_ ?_ _); (focus (first | with_reducible exact Nat.le_refl _ | (simp; done) | omega | (simp; omega) | exact Nat.le_refl _))) | ((with_reducible refine bset ?_ ?_ _); (focus (first | with_reducible exact Nat.le_refl _ | (simp; done) | omega | (simp; omega) | exact Nat.le_refl _)))))⟩

theorem szTermS_any (own : Bool) (l h : Nat) (v : Value) (ts : List T) (n : Int) (w : World) (h1 : Terms own l h w v ts) (n0 : 0 ≤ n) (n1 : n ≤ 1048576) :
    Calls Try.prog 53 #[v, .int .i64 n] w fun e w' => e = .returned (.int .i64 (if n < ts.length then -1 else n - ts.length)) ∧ w = w' := by
  obtain ⟨a, ca, rfl, la, ba⟩ := h1.shape
  by_cases hl : n < ts.length
  · rw [if_pos hl]
    go_enter Try.func53, Try.ntmps53
    go_wp2_with fail
    go_ret
    exact ⟨rfl, rfl⟩
  · rw [if_neg hl]
    go_enter Try.func53, Try.ntmps53
    go_wp2_with fail
    go_ret
    exact ⟨rfl, rfl⟩

set_option maxHeartbeats 400000 in
theorem szLin_any (own : Bool) (l h : Nat) (v : Value) (ts : List T) (n : Int) (w : World) (h1 : Terms own l h w v ts) (hw : h ≤ w.heap.size) (n0 : 0 ≤ n) (n1 : n ≤ 1048576) :
    Calls Try.prog 14 #[.agg #[v], .int .i64 n] w fun e w' => e = .returned (.int .i64 (if n < ts.length then -1 else n - ts.length)) ∧ Below w.heap.size w w' := by
  have hs := szTermS_any own l h v ts n
  by_cases hl : n < ts.length
  · rw [if_pos hl] at hs ⊢
    go_enter Try.func14, Try.ntmps14
    go_wp2_with fail
    refine (hs _ (h1.keep (B := h) (by (repeat (first | with_reducible exact Below.refl _ _ | with_reducible assumption | with_reducible refine Below.drew ?_ | with_reducible refine bdrewN ?_ _ | ((with_reducible refine balloc ?_ ?_ _); (focus (first | with_reducible exact Nat.le_refl _ | (simp; done) | omega | (simp; omega) | exact Nat.le_refl _))) | ((with_reducible refine bset ?_ ?_ _); (focus (first | with_reducible exact Nat.le_refl _ | (simp; done) | omega | (simp; omega) | exact Nat.le_refl _)))))) (Nat.le_refl _)) n0 n1).mono ?_; rintro e w' ⟨rfl, rfl⟩
    clear hs
    go_wp2_with fail
    go_ret
    exact ⟨rfl, by (repeat (first | with_reducible exact Below.refl _ _ | with_reducible assumption | with_reducible refine Below.drew ?_ | with_reducible refine bdrewN ?_ _ | ((with_reducible refine balloc ?_ ?_ _); (focus (first | with_reducible exact Nat.le_refl _ | (simp; done) | omega | (simp; omega) | exact Nat.le_refl _))) | ((with_reducible refine bset ?_ ?_ _); (focus (first | with_reducible exact Nat.le_refl _ | (simp; done) | omega | (simp; omega) | exact Nat.le_refl _)))))⟩
  · rw [if_neg hl] at hs ⊢
    go_enter Try.func14, Try.ntmps14
    go_wp2_with fail
    refine (hs _ (h1.keep (B := h) (by (repeat (first | with_reducible exact Below.refl _ _ | with_reducible assumption | with_reducible refine Below.drew ?_ | with_reducible refine bdrewN ?_ _ | ((with_reducible refine balloc ?_ ?_ _); (focus (first | with_reducible exact Nat.le_refl _ | (simp; done) | omega | (simp; omega) | exact Nat.le_refl _))) | ((with_reducible refine bset ?_ ?_ _); (focus (first | with_reducible exact Nat.le_refl _ | (simp; done) | omega | (simp; omega) | exact Nat.le_refl _)))))) (Nat.le_refl _)) n0 n1).mono ?_; rintro e w' ⟨rfl, rfl⟩
    clear hs
    go_wp2_with fail
    go_ret
    exact ⟨rfl, by (repeat (first | with_reducible exact Below.refl _ _ | with_reducible assumption | with_reducible refine Below.drew ?_ | with_reducible refine bdrewN ?_ _ | ((with_reducible refine balloc ?_ ?_ _); (focus (first | with_reducible exact Nat.le_refl _ | (simp; done) | omega | (simp; omega) | exact Nat.le_refl _))) | ((with_reducible refine bset ?_ ?_ _); (focus (first | with_reducible exact Nat.le_refl _ | (simp; done) | omega | (simp; omega) | exact Nat.le_refl _)))))⟩

theorem bcell {W w1 : World} (hb : Below W.heap.size W w1) : (∀ b o, b < W.heap.size → w1.cell? ⟨b, o, none⟩ = W.cell? ⟨b, o, none⟩) ∧ (∀ b o, b < W.heap.size → w1.frozen? ⟨b, o, none⟩ = W.frozen? ⟨b, o, none⟩) :=
  ⟨fun b o h => hb.cell (p := ⟨b, o, none⟩) h, fun b o h => hb.frozen (p := ⟨b, o, none⟩) h⟩
theorem grown_of_below {W W' : World} (be : Below W.heap.size W W') : W.grownBy W' none := ⟨be.os, be.tape, be.output, be.size, fun k hk _ => be.block k hk⟩
theorem row_keep {W W' : World} {base : Nat} {e : TypeId} {size : Nat} {v : Value} {n : Nat} {xs : List Value} (h : W.ownsRow base e size v n xs) (be : Below W.heap.size W W') : W'.ownsRow base e size v n xs :=
  h.kept (grown_of_below be) (by cases v.ownBlock <;> simp)
theorem name_call {P : Program} {f : FuncId} {args : Array Value} {w : World} {R : Ending → World → Prop} (h : ∀ W, W = w → Calls P f args W R) : Calls P f args w R := h w rfl
theorem name_wp {P : Program} {c : Code} {Q : Exit → Act → World → Prop} {a : Act} {w : World} (h : ∀ W, W = w → Code.wp P c Q a W) : Code.wp P c Q a w := h w rfl
theorem alloc_keep {w : World} {a : Addr} {v : Value} {o : Obj} (h : w.cell? a = some v) : (w.alloc o).cell? a = some v := (World.cell?_alloc_lt _ _ _ (World.block_lt_of_cell? w a h)).trans h
theorem dec_self {α : Type} [DecidableEq α] (x : α) : decide (x = x) = true := decide_eq_true rfl
theorem cell_keep {W W' : World} {a : Addr} {v : Value} (be : Below W.heap.size W W') (h : W.cell? a = some v) : W'.cell? a = some v :=
  (be.cell (World.block_lt_of_cell? W a h)).trans h

theorem take_ne {ts us : List T} {k : Nat} {x y u v : Int} (hx : ts[k]? = some (x, y)) (hy : us[k]? = some (u, v)) (h : ¬ (x = u ∧ y = v)) : decide (ts = us) = false := by
  rw [decide_eq_false_iff_not]
  intro e
  rw [e, hy] at hx
  simp at hx
  exact h ⟨hx.1.symm, hx.2.symm⟩

set_option maxRecDepth 100000 in
set_option maxHeartbeats 1600000 in
theorem eqTermS_any (o1 o2 : Bool) (l1 h1 l2 h2 : Nat) (v u : Value) (ts us : List T) (w : World) (t1 : Terms o1 l1 h1 w v ts) (t2 : Terms o2 l2 h2 w u us) (hw1 : h1 ≤ w.heap.size) (hw2 : h2 ≤ w.heap.size) :
    Calls Try.prog 66 #[v, u] w fun e w' => e = .returned (.bool (decide (ts = us))) ∧ Below w.heap.size w w' := by
  obtain ⟨a, ca, rfl, la, ba⟩ := t1.shape
  obtain ⟨b, cb, rfl, lb, bb⟩ := t2.shape
  by_cases hl : ts.length = us.length
  · have hne : ((ts.length : Int) != (us.length : Int)) = false := by simp [hl]
    have HL := Lib.hid hl
    clear hl
    go_enter Try.func66, Try.ntmps66
    go_wp2_with fail
    go_loopw [5] (fun i wr => ∃ k : Nat, k ≤ ts.length ∧ i = .int .i64 k ∧ Below w.heap.size w wr ∧ ts.take k = us.take k) (fun i _ => ts.length - (intOf i).toNat)
    case atStart => exact ⟨0, Nat.zero_le _, rfl, Below.refl _ _, rfl⟩
    case round =>
      obtain ⟨k, hk, rfl, be, ht⟩ := hrel
      have HT := Lib.hid ht
      clear ht
      by_cases hlt : k < ts.length
      · have hlt2 : k < us.length := by rw [← HL.out]; exact hlt
        obtain ⟨b1, o1, x, y, rfl, l1, m1, c1, d1, e1, _⟩ := (t1.keep be hw1).at hlt
        obtain ⟨b2, o2, p, q, rfl, l2, m2, c2, d2, e2, _⟩ := (t2.keep be hw2).at hlt2
        by_cases hxy : x = p ∧ y = q
        · have HR : Hid (ts.take (k + 1) = us.take (k + 1)) := Lib.hid (by rw [take_step e1, take_step e2, HT.out, hxy.1, hxy.2])
          have hd : decide (x = p ∧ y = q) = true := decide_eq_true hxy
          have HD := Lib.hid hd
          clear hxy hd e1 e2
          go_wp2_with fail
          go_region_held3 (fun w' => w'.cell? ⟨b1, o1 + k * 2, none⟩ = some (.int .i64 x) ∧ w'.cell? ⟨b1, o1 + k * 2 + 1, none⟩ = some (.int .i64 y) ∧ w'.cell? ⟨b2, o2 + k * 2, none⟩ = some (.int .i64 p) ∧ w'.cell? ⟨b2, o2 + k * 2 + 1, none⟩ = some (.int .i64 q)) (first | exact ⟨c1, d1, c2, d2⟩ | exact ⟨cell_keep be2 c1, cell_keep be2 d1, cell_keep be2 c2, cell_keep be2 d2⟩)
            (first | (go_at_call 125; refine (eqTerm_any x y p q _).mono ?_; rw [HD.out]; rintro e w' ⟨rfl, be2⟩))
          go_wp2_with fail
          have be3 := be.drew.trans (be2.mono be.size)
          go_roundw
          case rel => exact ⟨k + 1, by omega, by go_num, be3, HR.out⟩
          case measure => simp [intOf]; omega
        · have HF := Lib.hid (take_ne e1 e2 hxy)
          have hd : decide (x = p ∧ y = q) = false := decide_eq_false hxy
          have HD := Lib.hid hd
          clear hxy hd e1 e2
          go_wp2_with fail
          go_region_held3 (fun w' => w'.cell? ⟨b1, o1 + k * 2, none⟩ = some (.int .i64 x) ∧ w'.cell? ⟨b1, o1 + k * 2 + 1, none⟩ = some (.int .i64 y) ∧ w'.cell? ⟨b2, o2 + k * 2, none⟩ = some (.int .i64 p) ∧ w'.cell? ⟨b2, o2 + k * 2 + 1, none⟩ = some (.int .i64 q)) (first | exact ⟨c1, d1, c2, d2⟩ | exact ⟨cell_keep be2 c1, cell_keep be2 d1, cell_keep be2 c2, cell_keep be2 d2⟩)
            (first | (go_at_call 125; refine (eqTerm_any x y p q _).mono ?_; rw [HD.out]; rintro e w' ⟨rfl, be2⟩))
          go_wp2_with fail
          have be3 := be.drew.trans (be2.mono be.size)
          go_ret
          exact ⟨ret_bool HF.out.symm, be3⟩
      · have HF : Hid (decide (ts = us) = true) := Lib.hid (by
          rw [decide_eq_true_iff]
          have := HT.out
          have h2 := HL.out
          rwa [take_end hlt, take_end (by omega)] at this)
        go_wp2_with fail
        go_ret
        exact ⟨ret_bool HF.out.symm, be⟩
  · have hne : ((ts.length : Int) != (us.length : Int)) = true := by simp; omega
    have HF : Hid (decide (ts = us) = false) := Lib.hid (by rw [decide_eq_false_iff_not]; intro e; exact hl (by rw [e]))
    clear hl
    go_enter Try.func66, Try.ntmps66
    go_wp2_with fail
    go_ret
    exact ⟨ret_bool HF.out.symm, Below.refl _ _⟩

theorem eqLin_any (o1 o2 : Bool) (l1 h1 l2 h2 : Nat) (v u : Value) (ts us : List T) (w : World) (t1 : Terms o1 l1 h1 w v ts) (t2 : Terms o2 l2 h2 w u us) (hw1 : h1 ≤ w.heap.size) (hw2 : h2 ≤ w.heap.size) :
    Calls Try.prog 20 #[.agg #[v], .agg #[u]] w fun e w' => e = .returned (.bool (decide (ts = us))) ∧ Below w.heap.size w w' := by
  have key : ∀ (W : World), Below w.heap.size w W → Calls Try.prog 66 #[v, u] W fun e w' => e = .returned (.bool (decide (ts = us))) ∧ Below w.heap.size w w' := fun W be =>
    (eqTermS_any o1 o2 l1 h1 l2 h2 v u ts us W (t1.keep be hw1) (t2.keep be hw2) (Nat.le_trans hw1 be.size) (Nat.le_trans hw2 be.size)).mono fun e w' ⟨he, hb⟩ => ⟨he, be.trans (hb.mono be.size)⟩
  by_cases hd : ts = us
  · rw [decide_eq_true hd] at key ⊢
    clear hd
    have KEY := Lib.hid key
    clear key
    go_enter Try.func20, Try.ntmps20
    go_wp2_with fail
    refine (KEY.out _ (by (repeat (first | with_reducible exact Below.refl _ _ | with_reducible assumption | with_reducible refine Below.drew ?_ | with_reducible refine bdrewN ?_ _ | ((with_reducible refine balloc ?_ ?_ _); (focus (first | with_reducible exact Nat.le_refl _ | (simp; done) | omega | (simp; omega) | exact Nat.le_refl _))) | ((with_reducible refine bset ?_ ?_ _); (focus (first | with_reducible exact Nat.le_refl _ | (simp; done) | omega | (simp; omega) | exact Nat.le_refl _))))))).mono ?_; rintro e w' ⟨rfl, be⟩
    go_wp2_with fail
    go_ret
    exact ⟨rfl, be⟩
  · rw [decide_eq_false hd] at key ⊢
    clear hd
    have KEY := Lib.hid key
    clear key
    go_enter Try.func20, Try.ntmps20
    go_wp2_with fail
    refine (KEY.out _ (by (repeat (first | with_reducible exact Below.refl _ _ | with_reducible assumption | with_reducible refine Below.drew ?_ | with_reducible refine bdrewN ?_ _ | ((with_reducible refine balloc ?_ ?_ _); (focus (first | with_reducible exact Nat.le_refl _ | (simp; done) | omega | (simp; omega) | exact Nat.le_refl _))) | ((with_reducible refine bset ?_ ?_ _); (focus (first | with_reducible exact Nat.le_refl _ | (simp; done) | omega | (simp; omega) | exact Nat.le_refl _))))))).mono ?_; rintro e w' ⟨rfl, be⟩
    go_wp2_with fail
    go_ret
    exact ⟨rfl, be⟩

theorem termInfo : (Try.prog.info? 141).map (fun i => (i.zero, i.size, i.bytes)) = some (some (.agg #[.int .i64 0, .int .i64 0]), 2, 16) := by kernel_rfl

/-- The cells of a list of terms. -/
def cells (ts : List T) : List Value := ts.flatMap fun t => [.int .i64 t.1, .int .i64 t.2]
theorem cells_cons (t : T) (ts : List T) : cells (t :: ts) = .int .i64 t.1 :: .int .i64 t.2 :: cells ts := rfl
theorem cells_append (ts us : List T) : cells (ts ++ us) = cells ts ++ cells us := by simp [cells]
theorem cells_length (ts : List T) : (cells ts).length = ts.length * 2 := by
  induction ts with
  | nil => rfl
  | cons t ts ih => rw [cells_cons]; simp [ih]; omega
theorem cells_at (ts : List T) (j : Nat) (t : T) (h : ts[j]? = some t) : (cells ts)[j * 2]? = some (.int .i64 t.1) ∧ (cells ts)[j * 2 + 1]? = some (.int .i64 t.2) := by
  induction ts generalizing j with
  | nil => simp at h
  | cons u ts ih =>
    rw [cells_cons]
    cases j with
    | zero => simp at h; subst h; simp
    | succ j =>
      simp at h
      obtain ⟨h1, h2⟩ := ih j h
      rw [show (j + 1) * 2 = j * 2 + 1 + 1 from by omega]
      exact ⟨by simpa using h1, by simpa using h2⟩

/-- A row of one's own reads as its terms. -/
theorem Terms.own {w : World} {base : Nat} {v : Value} {ts : List T} (h : w.ownsRow base 141 2 v ts.length (cells ts)) (hf : ∀ t ∈ ts, Fits t.1 ∧ Fits t.2) : Terms true base w.heap.size w v ts := by
  rcases h.2 with ⟨rfl, h0⟩ | ⟨g, cap, cur, rfl, hb, hg, hc, hcm, hs, ht⟩
  · have : ts = [] := List.eq_nil_of_length_eq_zero h0
    subst this
    exact Terms.nil _ _ _ _
  · refine ⟨some ⟨g, 0, none⟩, cap, rfl, hc, by unfold maxLen at hcm; omega, hf, ?_⟩
    refine .inr ⟨g, 0, rfl, hb, (h.lt g rfl).2, fun _ j => h.frozenAt j, fun j t hj => ?_⟩
    have hjl : j < ts.length := (List.getElem?_eq_some_iff.1 hj).1
    obtain ⟨c1, c2⟩ := cells_at ts j t hj
    rw [show (0 : Nat) + j * 2 = j * 2 from Nat.zero_add _]
    exact ⟨(h.cellAt _ (by omega)).trans c1, (h.cellAt _ (by omega)).trans c2⟩

/-- The copy's terms behind k rounds. -/
def part (ts : List T) (k : Nat) : List T := ts.take k ++ List.replicate (ts.length - k) (0, 0)
theorem part_length (ts : List T) (k : Nat) (h : k ≤ ts.length) : (part ts k).length = ts.length := by unfold part; simp; omega
theorem part_end (ts : List T) : part ts ts.length = ts := by simp [part]
theorem part_split (ts : List T) (k : Nat) (t : T) (h : ts[k]? = some t) : cells (part ts (k + 1)) = ((cells (part ts k)).set (k * 2) (.int .i64 t.1)).set (k * 2 + 1) (.int .i64 t.2) := by
  have hk : k < ts.length := (List.getElem?_eq_some_iff.1 h).1
  have hl : (cells (ts.take k)).length = k * 2 := by rw [cells_length]; simp; omega
  unfold part
  rw [take_step h, show ts.length - k = (ts.length - (k + 1)) + 1 from by omega, List.replicate_succ, cells_append, cells_append, cells_append]
  rw [List.append_assoc, List.set_append_right _ _ (by omega), hl, Nat.sub_self, List.set_append_right _ _ (by omega), hl, show k * 2 + 1 - k * 2 = 1 from by omega]
  rfl
theorem part_at (ts : List T) (k : Nat) (h : k < ts.length) : (cells (part ts k))[k * 2]? = some (.int .i64 0) ∧ (cells (part ts k))[k * 2 + 1]? = some (.int .i64 0) := by
  have h1 : (part ts k)[k]? = some (0, 0) := by
    unfold part
    have hl : (ts.take k).length = k := by simp; omega
    rw [List.getElem?_append_right (by omega), hl, Nat.sub_self, List.getElem?_replicate, if_pos (by omega)]
  exact cells_at _ k _ h1
theorem made_zero (n : Nat) : (madeCells #[Value.int .i64 0, .int .i64 0] (n * 2)).toList = cells (List.replicate n (0, 0)) := by
  apply List.ext_getElem?
  intro j
  by_cases hj : j < n * 2
  · have h1 : (List.replicate n ((0, 0) : T))[j / 2]? = some (0, 0) := by rw [List.getElem?_replicate, if_pos (by omega)]
    obtain ⟨c1, c2⟩ := cells_at _ _ _ h1
    have e : (madeCells #[Value.int .i64 0, .int .i64 0] (n * 2)).toList[j]? = some (.int .i64 0) := by
      have : j % 2 = 0 ∨ j % 2 = 1 := by omega
      rcases this with h | h <;> simp [madeCells, hj, h]
    rw [e]
    rcases (show j = j / 2 * 2 ∨ j = j / 2 * 2 + 1 from by omega) with h | h
    · rw [h, c1]
    · rw [h, c2]
  · rw [List.getElem?_eq_none (by simp [madeCells]; omega), List.getElem?_eq_none (by rw [cells_length]; simp; omega)]

set_option maxRecDepth 100000 in
set_option maxHeartbeats 1600000 in
/-- A copy lies in a new block. -/
theorem toTermS_any (own : Bool) (l h : Nat) (v : Value) (ts : List T) (w : World) (h1 : Terms own l h w v ts) (hw : h ≤ w.heap.size) (hlen : ts.length ≤ 1048576) :
    Calls Try.prog 60 #[v] w fun e w' => ∃ u, e = .returned u ∧ Below w.heap.size w w' ∧ Terms true w.heap.size w'.heap.size w' u ts := by
  obtain ⟨a, ca, rfl, la, ba⟩ := h1.shape
  obtain ⟨i0, hi, hz0, hz1, hz2⟩ := info_parts termInfo
  have H3 := Lib.hid h1.fits
  go_enter Try.func60, Try.ntmps60
  go_wp2_with (refine wpList_make_full _ rfl _ _ 37 rfl w.heap.size 141 i0 (.agg #[.int .i64 0, .int .i64 0]) 2 Try.underlying37 hi hz0 hz1 .i64 .i64 _ _ ts.length rfl rfl rfl rfl (by rw [hz2]; omega) (by unfold maxLen; omega) (Nat.le_refl _) ?_; intro w1 hown hgr)
  have be1 : Below w.heap.size w w1 := (Below.refl _ _).grown hgr (Nat.le_refl _) (fun k e => by simp at e)
  have hown1 : w1.ownsRow w.heap.size 141 2 (Value.slice (some ⟨w.heap.size, 0, none⟩) ts.length ts.length) ts.length (cells (part ts 0)) := by
    have e : part ts 0 = List.replicate ts.length (0, 0) := by simp [part]
    rw [e, ← made_zero]
    exact hown
  clear hown hgr hi hz0 hz1 hz2
  go_loopw [4] (fun i wr => ∃ k : Nat, k ≤ ts.length ∧ i = .int .i64 k ∧ Below w.heap.size w wr ∧ wr.ownsRow w.heap.size 141 2 (Value.slice (some ⟨w.heap.size, 0, none⟩) ts.length ts.length) ts.length (cells (part ts k))) (fun i _ => ts.length - (intOf i).toNat)
  case atStart => exact ⟨0, Nat.zero_le _, rfl, be1, hown1⟩
  case round =>
    obtain ⟨k, hk, rfl, be, hown⟩ := hrel
    by_cases hlt : k < ts.length
    · obtain ⟨b, off, x, y, rfl, l1, m1, c1, d1, e1, _⟩ := (h1.keep be hw).at hlt
      go_wp2_with fail
      refine (toTerm_any x y _).mono ?_; rintro e w2 ⟨rfl, be2⟩
      have hown2 := row_keep hown be2
      have be3 := be.trans (be2.mono be.size)
      obtain ⟨p0, p1⟩ := part_at ts k hlt
      have pl := part_length ts k hk
      have cw := (hown2.cellAt (k * 2) (by omega)).trans p0
      have cw1 := (hown2.cellAt (k * 2 + 1) (by omega)).trans p1
      have fw := hown2.frozenAt (k * 2)
      have fw1 := hown2.frozenAt (k * 2 + 1)
      have st := ((hown2.stored (k * 2) (.int .i64 x)).1.stored (k * 2 + 1) (.int .i64 y)).1
      rw [← part_split ts k (x, y) e1] at st
      have be4 := (be3.setCell (p := ⟨w.heap.size, k * 2, none⟩) (Nat.le_refl _) (.int .i64 x)).setCell (p := ⟨w.heap.size, k * 2 + 1, none⟩) (Nat.le_refl _) (.int .i64 y)
      clear hown hown2 e1 c1 d1 be be1 hown1 be2 be3 p0 p1 pl
      go_wp2_with fail
      go_roundw
      case rel => exact ⟨k + 1, by omega, by go_num, be4, st⟩
      case measure => simp [intOf]; omega
    · obtain rfl : k = ts.length := by omega
      rw [part_end] at hown
      have fin := Terms.own hown H3.out
      clear hown
      go_wp2_with fail
      go_ret
      exact ⟨_, rfl, be, fin⟩

set_option maxHeartbeats 800000 in
theorem toLin_any (own : Bool) (l h : Nat) (v : Value) (ts : List T) (w : World) (h1 : Terms own l h w v ts) (hw : h ≤ w.heap.size) (hlen : ts.length ≤ 1048576) :
    Calls Try.prog 17 #[.agg #[v]] w fun e w' => ∃ u, e = .returned (.agg #[u]) ∧ Below w.heap.size w w' ∧ Terms true w.heap.size w'.heap.size w' u ts := by
  go_enter Try.func17, Try.ntmps17
  go_wp2_with fail
  refine (toTermS_any own l h v ts _ (h1.keep (B := h) (by (repeat (first | with_reducible exact Below.refl _ _ | with_reducible assumption | with_reducible refine Below.drew ?_ | with_reducible refine bdrewN ?_ _ | ((with_reducible refine balloc ?_ ?_ _); (focus (first | with_reducible exact Nat.le_refl _ | (simp; done) | omega | (simp; omega) | exact Nat.le_refl _))) | ((with_reducible refine bset ?_ ?_ _); (focus (first | with_reducible exact Nat.le_refl _ | (simp; done) | omega | (simp; omega) | exact Nat.le_refl _)))))) (Nat.le_refl _)) (by first | with_reducible exact Nat.le_refl _ | (simp; done) | omega | (simp; omega) | exact Nat.le_refl _) hlen).mono ?_; rintro e w2 ⟨u, rfl, be2, ht⟩
  obtain ⟨a, ca, rfl, la, ba⟩ := ht.shape
  obtain ⟨hc, hf⟩ := bcell be2
  have hz := be2.size
  have be : Below w.heap.size w w2 := Below.trans (by (repeat (first | with_reducible exact Below.refl _ _ | with_reducible assumption | with_reducible refine Below.drew ?_ | with_reducible refine bdrewN ?_ _ | ((with_reducible refine balloc ?_ ?_ _); (focus (first | with_reducible exact Nat.le_refl _ | (simp; done) | omega | (simp; omega) | exact Nat.le_refl _))) | ((with_reducible refine bset ?_ ?_ _); (focus (first | with_reducible exact Nat.le_refl _ | (simp; done) | omega | (simp; omega) | exact Nat.le_refl _)))))) (be2.mono (by first | with_reducible exact Nat.le_refl _ | (simp; done) | omega | (simp; omega) | exact Nat.le_refl _))
  go_wp2_with fail
  refine bodyPost_ret (v := .agg #[.slice a ts.length ca]) (by simp [results, Try.results17, go_sem, hc]) rfl ⟨_, rfl, by (repeat (first | with_reducible exact Below.refl _ _ | with_reducible assumption | with_reducible refine Below.drew ?_ | with_reducible refine bdrewN ?_ _ | ((with_reducible refine balloc ?_ ?_ _); (focus (first | with_reducible exact Nat.le_refl _ | (simp; done) | omega | (simp; omega) | exact Nat.le_refl _))) | ((with_reducible refine bset ?_ ?_ _); (focus (first | with_reducible exact Nat.le_refl _ | (simp; done) | omega | (simp; omega) | exact Nat.le_refl _))))), ?_⟩
  exact (ht.only (lo := w.heap.size) (hi := w.heap.size + 3) (by (repeat (first | with_reducible exact Only.refl _ _ _ | with_reducible assumption | with_reducible refine Only.drew ?_ | with_reducible refine odrewN ?_ _ | with_reducible refine Only.alloc ?_ _ | ((with_reducible refine oset ?_ ?_ ?_ _); (focus (first | with_reducible exact Nat.le_refl _ | (simp; done) | omega | (simp; omega) | exact Nat.le_refl _)); (focus (first | with_reducible exact Nat.le_refl _ | (simp; done) | omega | (simp; omega) | exact Nat.le_refl _)))))) (by simp) (by simp)).mono (by simp; omega) (by simp)

/-- What marking leaves: numbers that follow one another from k on. -/
def marks : Nat → Nat → List T
  | _, 0 => []
  | k, n + 1 => ((k : Int), (k : Int) + 1) :: marks (k + 2) n
theorem marks_length (k n : Nat) : (marks k n).length = n := by
  induction n generalizing k with
  | zero => rfl
  | succ n ih => simp [marks, ih]
theorem marks_at (k n j : Nat) (h : j < n) : (marks k n)[j]? = some (((k + 2 * j : Nat) : Int), ((k + 2 * j : Nat) : Int) + 1) := by
  induction n generalizing k j with
  | zero => omega
  | succ n ih =>
    cases j with
    | zero => simp [marks]
    | succ j =>
      simp only [marks, List.getElem?_cons_succ]
      rw [ih (k + 2) j (by omega), show k + 2 + 2 * j = k + 2 * (j + 1) from by omega]
theorem marks_fits (k n : Nat) (h : k + 2 * n ≤ 9223372036854775807) : ∀ t ∈ marks k n, Fits t.1 ∧ Fits t.2 := by
  intro t ht
  obtain ⟨j, hj, rfl⟩ := List.mem_iff_getElem.1 ht
  have hl := marks_length k n
  have := marks_at k n j (by omega)
  rw [List.getElem?_eq_getElem hj] at this
  simp only [Option.some.injEq] at this
  rw [this]
  unfold Fits
  simp only
  omega

/-- Behind j rounds of marking: the first j are marks. -/
def marked (ts : List T) (k j : Nat) : List T := marks k j ++ ts.drop j
theorem marked_length (ts : List T) (k j : Nat) (h : j ≤ ts.length) : (marked ts k j).length = ts.length := by unfold marked; simp [marks_length]; omega
theorem marked_at (ts : List T) (k j i : Nat) (t : T) (h : ts[i]? = some t) (hi : j ≤ i) : (marked ts k j)[i]? = some t := by
  unfold marked
  rw [List.getElem?_append_right (by rw [marks_length]; exact hi), marks_length, List.getElem?_drop, show j + (i - j) = i from by omega]
  exact h
theorem marks_snoc (k n : Nat) : marks k (n + 1) = marks k n ++ [(((k + 2 * n : Nat) : Int), ((k + 2 * n : Nat) : Int) + 1)] := by
  apply List.ext_getElem?
  intro j
  by_cases h : j < n
  · rw [marks_at _ _ _ (by omega), List.getElem?_append_left (by rw [marks_length]; exact h), marks_at _ _ _ h]
  · by_cases h2 : j = n
    · subst h2
      rw [marks_at _ _ _ (by omega), List.getElem?_append_right (by rw [marks_length]; omega), marks_length, Nat.sub_self]
      rfl
    · rw [List.getElem?_eq_none (by rw [marks_length]; omega), List.getElem?_eq_none (by simp [marks_length]; omega)]

/-- An element of a row of one's own is written. -/
theorem Terms.put {l h : Nat} {w : World} {b off n cap : Nat} {ts : List T} (ht : Terms true l h w (.slice (some ⟨b, off, none⟩) n cap) ts) {k : Nat} (hk : k < ts.length) (x y : Int) (fx : Fits x) (fy : Fits y) :
    Terms true l h ((w.setCell ⟨b, off + k * 2, none⟩ (.int .i64 x)).setCell ⟨b, off + k * 2 + 1, none⟩ (.int .i64 y)) (.slice (some ⟨b, off, none⟩) n cap) (ts.set k (x, y)) := by
  obtain ⟨a', cap', e0, h1, h2, h3, h4⟩ := ht
  simp only [Value.slice.injEq] at e0
  obtain ⟨rfl, rfl, rfl⟩ := e0
  have hfit : ∀ t ∈ ts.set k (x, y), Fits t.1 ∧ Fits t.2 := by
    intro t hm
    rcases List.mem_or_eq_of_mem_set hm with hm | rfl
    · exact h3 t hm
    · exact ⟨fx, fy⟩
  rcases h4 with h4 | ⟨b', off', e, hl, hlt, hf, hc⟩
  · rw [h4] at hk; simp at hk
  · simp only [Option.some.injEq, Addr.mk.injEq, and_true] at e
    obtain ⟨rfl, rfl⟩ := e
    obtain ⟨c0, c1⟩ := hc k _ (List.getElem?_eq_getElem hk)
    refine ⟨some ⟨b, off, none⟩, cap, by simp, by simpa using h1, h2, hfit, .inr ⟨b, off, rfl, hl, hlt, fun _ j => ?_, fun j t hj => ?_⟩⟩
    · rw [World.frozen?_setCell, World.frozen?_setCell]; exact hf rfl j
    · by_cases hjk : j = k
      · subst hjk
        rw [List.getElem?_set_self hk] at hj
        simp only [Option.some.injEq] at hj
        subst hj
        refine ⟨?_, ?_⟩
        · rw [World.cell?_setCell_other _ _ _ _ (by simp)]; exact World.cell?_setCell_same _ _ _ c0
        · exact World.cell?_setCell_same _ _ _ ((World.cell?_setCell_other _ _ _ _ (by simp)).trans c1)
      · rw [List.getElem?_set_ne (by omega)] at hj
        obtain ⟨d0, d1⟩ := hc j t hj
        refine ⟨?_, ?_⟩
        · rw [World.cell?_setCell_other _ _ _ _ (by simp <;> omega), World.cell?_setCell_other _ _ _ _ (by simp <;> omega)]; exact d0
        · rw [World.cell?_setCell_other _ _ _ _ (by simp <;> omega), World.cell?_setCell_other _ _ _ _ (by simp <;> omega)]; exact d1
theorem marked_set (ts : List T) (k j : Nat) (h : j < ts.length) : (marked ts k j).set j (((k + 2 * j : Nat) : Int), ((k + 2 * j : Nat) : Int) + 1) = marked ts k (j + 1) := by
  unfold marked
  rw [marks_snoc, List.set_append_right _ _ (by rw [marks_length]; exact Nat.le_refl _), marks_length, Nat.sub_self, List.drop_eq_getElem_cons h, List.set_cons_zero]
  simp

set_option maxRecDepth 100000 in
set_option maxHeartbeats 1600000 in
/-- Marking writes into the row alone. -/
theorem markTermS_any (l h : Nat) (v : Value) (ts : List T) (m : Nat) (w : World) (h1 : Terms true l h w v ts) (hw : h ≤ w.heap.size) (hlen : ts.length ≤ 4194304) (hm : m ≤ 16777216) :
    Calls Try.prog 69 #[v, .int .i64 m] w fun e w' => e = .returned (.int .i64 ((m + 2 * ts.length : Nat) : Int)) ∧ Only l h w w' ∧ Terms true l h w' v (marks m ts.length) := by
  obtain ⟨a, ca, rfl, la, ba⟩ := h1.shape
  have hfit := h1.fits
  go_enter Try.func69, Try.ntmps69
  go_wp2_with fail
  go_loopw [1, 5] (fun n i wr => ∃ j : Nat, j ≤ ts.length ∧ i = .int .i64 j ∧ n = .int .i64 ((m + 2 * j : Nat) : Int) ∧ Only l h w wr ∧ Terms true l h wr (.slice a ts.length ca) (marked ts m j)) (fun _ i _ => ts.length - (intOf i).toNat)
  case atStart => exact ⟨0, Nat.zero_le _, rfl, rfl, Only.refl _ _ _, h1⟩
  case round =>
    obtain ⟨j, hj, rfl, rfl, on, ht⟩ := hrel
    have hml := marked_length ts m j hj
    by_cases hlt : j < ts.length
    · obtain ⟨a', cap', e0, q1, q2, q3, q4⟩ := id ht
      simp only [Value.slice.injEq] at e0
      obtain ⟨rfl, _, rfl⟩ := e0
      rcases q4 with q4 | ⟨b, off, rfl, r1, r2, r3, r4⟩
      · rw [q4] at hml; simp at hml; omega
      have hlt2 : j < (marked ts m j).length := by omega
      have put := ht.put hlt2 ((m + 2 * j : Nat) : Int) (((m + 2 * j : Nat) : Int) + 1) (by unfold Fits; omega) (by unfold Fits; omega)
      rw [marked_set ts m j hlt] at put
      obtain ⟨c0, c1⟩ := r4 j _ (List.getElem?_eq_getElem hlt2)
      have fz := r3 rfl (off + j * 2)
      have fz1 := r3 rfl (off + j * 2 + 1)
      have on' := (on.setCell (p := ⟨b, off + j * 2, none⟩) r1 r2 (.int .i64 ((m + 2 * j : Nat) : Int))).setCell (p := ⟨b, off + j * 2 + 1, none⟩) r1 r2 (.int .i64 (((m + 2 * j : Nat) : Int) + 1))
      clear ht q3 r4 r3 hfit hml h1 on
      have c1' : ∀ u, (wr.setCell ⟨b, off + j * 2, none⟩ u).cell? ⟨b, off + j * 2 + 1, none⟩ = some (.int .i64 (marked ts m j)[j].2) := fun u => (World.cell?_setCell_other _ _ _ _ (by simp)).trans c1
      clear c1
      obtain ⟨q, hq⟩ : ∃ q : Int, q = ((m + 2 * j : Nat) : Int) := ⟨_, rfl⟩
      rw [← hq] at put on' ⊢
      have q0 : 0 ≤ q := by omega
      have q1 : q ≤ 100000000 := by omega
      have HQ := Lib.hid hq
      clear hq
      go_wp2_with fail
      go_roundw
      case rel => exact ⟨j + 1, by omega, by go_num, by rw [HQ.out]; go_num, on', put⟩
      case measure => simp [intOf]; omega
    · obtain rfl : j = ts.length := by omega
      have e : marked ts m ts.length = marks m ts.length := by simp [marked]
      rw [e] at ht
      go_wp2_with fail
      go_ret
      exact ⟨rfl, on, ht⟩

set_option maxHeartbeats 400000 in
theorem markLin_any (l h : Nat) (v : Value) (ts : List T) (m : Nat) (w : World) (h1 : Terms true l h w v ts) (hw : h ≤ w.heap.size) (hlen : ts.length ≤ 4194304) (hm : m ≤ 16777216) :
    Calls Try.prog 22 #[.agg #[v], .int .i64 m] w fun e w' => e = .returned (.int .i64 ((m + 2 * ts.length : Nat) : Int)) ∧ Only l h w w' ∧ Terms true l h w' v (marks m ts.length) := by
  go_enter Try.func22, Try.ntmps22
  go_wp2_with fail
  refine (markTermS_any l h v ts m _ (h1.keep (B := h) (by (repeat (first | with_reducible exact Below.refl _ _ | with_reducible assumption | with_reducible refine Below.drew ?_ | with_reducible refine bdrewN ?_ _ | ((with_reducible refine balloc ?_ ?_ _); (focus (first | with_reducible exact Nat.le_refl _ | (simp; done) | omega | (simp; omega) | exact Nat.le_refl _))) | ((with_reducible refine bset ?_ ?_ _); (focus (first | with_reducible exact Nat.le_refl _ | (simp; done) | omega | (simp; omega) | exact Nat.le_refl _)))))) (Nat.le_refl _)) (by first | with_reducible exact Nat.le_refl _ | (simp; done) | omega | (simp; omega) | exact Nat.le_refl _) hlen hm).mono ?_; rintro e w2 ⟨rfl, on, ht⟩
  have on' : Only l h w w2 := Only.trans (by (repeat (first | with_reducible exact Only.refl _ _ _ | with_reducible assumption | with_reducible refine Only.drew ?_ | with_reducible refine odrewN ?_ _ | with_reducible refine Only.alloc ?_ _ | ((with_reducible refine oset ?_ ?_ ?_ _); (focus (first | with_reducible exact Nat.le_refl _ | (simp; done) | omega | (simp; omega) | exact Nat.le_refl _)); (focus (first | with_reducible exact Nat.le_refl _ | (simp; done) | omega | (simp; omega) | exact Nat.le_refl _)))))) on
  go_wp2_with fail
  go_ret
  exact ⟨rfl, on', ht⟩

set_option maxRecDepth 100000 in
set_option maxHeartbeats 1600000 in
/-- What was marked is found so. -/
theorem heldTermS_any (own : Bool) (l h : Nat) (v : Value) (n m : Nat) (w : World) (h1 : Terms own l h w v (marks m n)) (hlen : n ≤ 4194304) (hm : m ≤ 16777216) :
    Calls Try.prog 72 #[v, .int .i64 m] w fun e w' => e = .returned (.int .i64 ((m + 2 * n : Nat) : Int)) ∧ w = w' := by
  obtain ⟨a, ca, rfl, la, ba⟩ := h1.shape
  have hl := marks_length m n
  rw [hl] at la h1 ⊢
  go_enter Try.func72, Try.ntmps72
  go_wp2_with fail
  go_loop [1, 5] (fun q i => ∃ j : Nat, j ≤ n ∧ i = .int .i64 j ∧ q = .int .i64 ((m + 2 * j : Nat) : Int)) (fun _ i => n - (intOf i).toNat)
  case atStart => exact ⟨0, Nat.zero_le _, rfl, rfl⟩
  case round =>
    obtain ⟨j, hj, rfl, rfl⟩ := hrel
    by_cases hlt : j < n
    · obtain ⟨b, off, x, y, rfl, l1, m1, c1, d1, e1, _⟩ := h1.at (k := j) (by omega)
      rw [marks_at m n j hlt] at e1
      simp only [Option.some.injEq, Prod.mk.injEq] at e1
      obtain ⟨rfl, rfl⟩ := e1
      clear hl
      obtain ⟨q, hq⟩ : ∃ q : Int, q = ((m + 2 * j : Nat) : Int) := ⟨_, rfl⟩
      rw [← hq] at c1 d1 ⊢
      have q0 : 0 ≤ q := by omega
      have q1 : q ≤ 100000000 := by omega
      have HQ := Lib.hid hq
      clear hq
      go_wp2_with fail
      go_round
      case rel => exact ⟨j + 1, by omega, by go_num, by rw [HQ.out]; go_num⟩
      case measure => simp [intOf]; omega
    · obtain rfl : j = n := by omega
      clear hl
      go_wp2_with fail
      go_ret
      exact ⟨rfl, rfl⟩

set_option maxHeartbeats 400000 in
theorem heldLin_any (own : Bool) (l h : Nat) (v : Value) (n m : Nat) (w : World) (h1 : Terms own l h w v (marks m n)) (hw : h ≤ w.heap.size) (hlen : n ≤ 4194304) (hm : m ≤ 16777216) :
    Calls Try.prog 24 #[.agg #[v], .int .i64 m] w fun e w' => e = .returned (.int .i64 ((m + 2 * n : Nat) : Int)) ∧ Below w.heap.size w w' := by
  go_enter Try.func24, Try.ntmps24
  go_wp2_with fail
  refine (heldTermS_any own l h v n m _ (h1.keep (B := h) (by (repeat (first | with_reducible exact Below.refl _ _ | with_reducible assumption | with_reducible refine Below.drew ?_ | with_reducible refine bdrewN ?_ _ | ((with_reducible refine balloc ?_ ?_ _); (focus (first | with_reducible exact Nat.le_refl _ | (simp; done) | omega | (simp; omega) | exact Nat.le_refl _))) | ((with_reducible refine bset ?_ ?_ _); (focus (first | with_reducible exact Nat.le_refl _ | (simp; done) | omega | (simp; omega) | exact Nat.le_refl _)))))) (Nat.le_refl _)) hlen hm).mono ?_; rintro e w2 ⟨rfl, rfl⟩
  obtain ⟨q, hq⟩ : ∃ q : Int, q = ((m + 2 * n : Nat) : Int) := ⟨_, rfl⟩
  rw [← hq]
  have q0 : 0 ≤ q := by omega
  have q1 : q ≤ 100000000 := by omega
  have HQ := Lib.hid hq
  clear hq
  go_wp2_with fail
  go_ret
  exact ⟨by rw [← HQ.out]; rfl, by (repeat (first | with_reducible exact Below.refl _ _ | with_reducible assumption | with_reducible refine Below.drew ?_ | with_reducible refine bdrewN ?_ _ | ((with_reducible refine balloc ?_ ?_ _); (focus (first | with_reducible exact Nat.le_refl _ | (simp; done) | omega | (simp; omega) | exact Nat.le_refl _))) | ((with_reducible refine bset ?_ ?_ _); (focus (first | with_reducible exact Nat.le_refl _ | (simp; done) | omega | (simp; omega) | exact Nat.le_refl _)))))⟩
end Go.Proofs.Yteekpdlkdpkegaa.L
