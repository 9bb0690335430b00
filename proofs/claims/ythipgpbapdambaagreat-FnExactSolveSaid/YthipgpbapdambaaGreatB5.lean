/- B5: Clone CloneS CloneO -/
import Derived.Test.YthipgpbapdambaaGreatB3
import Derived.Test.YthipgpbapdambaaGreatB4
import Derived.Test.YthipgpbapdambaaGreatB2
import Derived.Test.YthipgpbapdambaaGreatB2
import Derived.Test.YthipgpbapdambaaGreatB1
import Derived.Deep.DeepCutAuto
set_option linter.unusedVariables false
set_option linter.unusedSimpArgs false
/- Copies of combinations: the program's and the model's. -/
namespace Go.Proofs.YthipgpbapdambaaGreat.L
open Go.RowKit Go.Proofs.YthipgpbapdambaaGreat.S
set_option linter.unusedVariables false
set_option linter.unusedSimpArgs false

theorem Terms.cellsOf {o : Bool} {l h : Nat} {w : World} {a : Option Addr} {n cap : Nat} {ts : List T} (t : Terms o l h w (.slice a n cap) ts) :
  (a = none → ts.length = 0) ∧ ∀ ad, a = some ad → ∀ j u, (cells ts)[j]? = some u → w.cell? (ad.add j) = some u := by
 obtain ⟨a', cap', e, h1, h2, h3, h4⟩ := t
 simp only [Value.slice.injEq] at e
 obtain ⟨rfl, rfl, rfl⟩ := e
 rcases h4 with h4 | ⟨b, off, rfl, hl, hlt, hf, hc⟩
 ·subst h4
  exact ⟨fun _ => rfl, fun ad _ j u hj => by simp [cells] at hj⟩
 ·refine ⟨fun h => by simp at h, fun ad had j u hj => ?_⟩
  simp only [Option.some.injEq] at had
  subst had
  have hjl : j < ts.length * 2 := by rw [← cells_length]; exact (List.getElem?_eq_some_iff.1 hj).1
  obtain ⟨c0, c1⟩ := hc (j / 2) ts[j / 2] (List.getElem?_eq_getElem (by omega))
  obtain ⟨d0, d1⟩ := cells_at ts (j / 2) ts[j / 2] (List.getElem?_eq_getElem (by omega))
  rw [Go.WideShapes.add_plain]
  rcases (show j = j / 2 * 2 ∨ j = j / 2 * 2 + 1 from by omega) with q | q
  ·rw [q] at hj ⊢
   rw [d0] at hj; simp only [Option.some.injEq] at hj; rw [← hj]
   exact c0
  ·rw [q] at hj ⊢
   rw [d1] at hj; simp only [Option.some.injEq] at hj; rw [← hj, ← Nat.add_assoc]
   exact c1
theorem cells_one (ts : List T) : ∀ u ∈ cells ts, u.oneCell' = true := by
 intro u hu
 unfold cells at hu
 rw [List.mem_flatMap] at hu
 obtain ⟨t, _, ht⟩ := hu
 simp only [List.mem_cons, List.not_mem_nil, or_false] at ht
 rcases ht with rfl | rfl <;> rfl
theorem own_slice {w : World} {base : Nat} {e : TypeId} {size n : Nat} {v : Value} {xs : List Value} (h : w.ownsRow base e size v n xs) : ∃ a cap, v = .slice a n cap := by
 rcases h.2 with ⟨rfl, rfl⟩ | ⟨g, cap, cur, rfl, _⟩
 ·exact ⟨_, _, rfl⟩
 ·exact ⟨_, _, rfl⟩

theorem below_grown {W w5 : World} {row : Option Nat} {B : Nat} (g : W.grownBy w5 row) (hB : B ≤ W.heap.size) (hr : ∀ k, row = some k → B ≤ k) : Below B W w5 := ⟨g.os, g.tape, g.output, g.size, fun k hk => g.block k (Nat.lt_of_lt_of_le hk hB) (fun e => by have := hr k e.symm; omega)⟩
theorem name_list {P : Program} {ops : Array Oper} {rest : List Oper} {a : Act} {Q : Exit → Act → World → Prop} {w : World} (h : ∀ W, W = w → wpList P ops Q rest a W) : wpList P ops Q rest a w := h w rfl

set_option maxRecDepth 100000 in
set_option maxHeartbeats 1600000 in
theorem clone_any (o l h v) (ts : List T) (w : World) (t : Terms o l h w v ts) (hw : h ≤ w.heap.size) (hn : ts.length ≤ 16777216) :
  Calls Tryz.prog 126 #[.agg #[v]] w fun e w' => ∃ u, e = .returned (.agg #[u]) ∧ Below w.heap.size w w' ∧ Terms true w.heap.size w'.heap.size w' u ts := by
 obtain ⟨a, ka, rfl, la, ba⟩ := t.shape
 have F := Lib.hid t.fits
 obtain ⟨i0, hi0, hz0, hz1, hz2⟩ := info_parts termInfo
 go_enter Tryz.func126, Tryz.ntmps126
 go_wp2_with (at_builtin; refine name_list ?_)
 intro W hW
 have b1 : Below w.heap.size w W := by rw [hW]; (repeat (with_reducible first | exact bR _ _ | assumption | refine bD ?_ | refine bN ?_ _ | refine bA ?_ _ | refine bS ?_ _))
 have z1 : w.heap.size + 2 ≤ W.heap.size := by rw [hW]; simp
 have cR : W.cell? ⟨w.heap.size + 1, 0, none⟩ = some (.slice none 0 0) := by rw [hW]; go_simp
 have fR : W.frozen? ⟨w.heap.size + 1, 0, none⟩ = false := by rw [hW]; go_simp
 have C := Lib.hid (t.keep b1 hw).cellsOf
 clear hW
 go_wp2_with (at_builtin; refine wpList_append_spread _ rfl _ _ 51 rfl (w.heap.size + 2) 159 i0 (.agg #[.int .i64 0, .int .i64 0]) 2 16 Tryz.underlying51 hi0 hz0 hz1 hz2 rfl (by decide) (.slice none 0 0) 0 [] rfl (World.ownsRow_nil _ _ _ _) _ _ _ (cells ts) rfl (cells_length ts) C.out.1 C.out.2 (cells_one ts) (by unfold maxLen; omega) (by omega) z1 ?_; rintro v' w5 ⟨hown, hgrow, -⟩; obtain ⟨a', cap', rfl⟩ := own_slice hown; have e5 : Below W.heap.size W w5 := below_grown (row := none) hgrow (Nat.le_refl _) (fun k e => by simp at e); have cR5 := cell_keep e5 cR; have fR5 := (e5.frozen (p := ⟨w.heap.size + 1, 0, none⟩) (show w.heap.size + 1 < W.heap.size by omega)).trans fR; have z5 := e5.size; have b5 := b1.trans (e5.mono (by omega)); have fin := Terms.own (by simpa using hown) F.out)
 clear hown hgrow C cR fR
 go_wp2_with fail
 exact bodyPost_ret (v := .agg #[.slice a' ts.length cap']) (by simp [results, Tryz.results126, go_sem, cR5]) rfl ⟨_, rfl, by (repeat (with_reducible first | exact bR _ _ | assumption | refine bD ?_ | refine bN ?_ _ | refine bA ?_ _ | refine bS ?_ _)), fin.stored (by omega) (by omega)⟩

set_option maxRecDepth 100000 in
set_option maxHeartbeats 1600000 in
theorem l2own_any (o l h v) (ts : List T) (w : World) (t : Terms o l h w v ts) (hw : h ≤ w.heap.size) (hn : ts.length ≤ 16777216) :
  Calls Tryz.prog 132 #[.agg #[v]] w fun e w' => ∃ u, e = .returned (.agg #[u]) ∧ Below w.heap.size w w' ∧ Terms true w.heap.size w'.heap.size w' u ts := by
 obtain ⟨a, ka, rfl, la, ba⟩ := t.shape
 have F := Lib.hid t.fits
 obtain ⟨i0, hi0, hz0, hz1, hz2⟩ := info_parts termInfo
 go_enter Tryz.func132, Tryz.ntmps132
 go_wp2_with (at_builtin; refine name_list ?_)
 intro W hW
 have b1 : Below w.heap.size w W := by rw [hW]; (repeat (with_reducible first | exact bR _ _ | assumption | refine bD ?_ | refine bN ?_ _ | refine bA ?_ _ | refine bS ?_ _))
 have z1 : w.heap.size + 2 ≤ W.heap.size := by rw [hW]; simp
 have cR : W.cell? ⟨w.heap.size + 1, 0, none⟩ = some (.slice none 0 0) := by rw [hW]; go_simp
 have fR : W.frozen? ⟨w.heap.size + 1, 0, none⟩ = false := by rw [hW]; go_simp
 have C := Lib.hid (t.keep b1 hw).cellsOf
 have row0 : W.ownsRow (w.heap.size + 2) 159 2 (.slice (some ⟨w.heap.size + 1 + 1, 0, none⟩) 0 0) 0 [] := by
  have q := World.ownsRow_made (base := w.heap.size + 2) (size := 2) (e := 159) ((w.alloc (.cells #[.slice a ts.length ka] 53)).alloc (.cells #[.slice none 0 0] 53)) #[] 0 (by simp) (Nat.zero_le _) (by simp)
  rw [hW]
  simpa only [World.size_alloc] using q
 clear hW
 go_wp2_with (at_builtin; refine wpList_append_spread _ rfl _ _ 51 rfl (w.heap.size + 2) 159 i0 (.agg #[.int .i64 0, .int .i64 0]) 2 16 Tryz.underlying51 hi0 hz0 hz1 hz2 rfl (by decide) (.slice (some ⟨w.heap.size + 1 + 1, 0, none⟩) 0 0) 0 [] rfl row0 _ _ _ (cells ts) rfl (cells_length ts) C.out.1 C.out.2 (cells_one ts) (by unfold maxLen; omega) (by omega) z1 ?_; rintro v' w5 ⟨hown, hgrow, -⟩; obtain ⟨a', cap', rfl⟩ := own_slice hown; have e5 : Below (w.heap.size + 2) W w5 := below_grown (row := some (w.heap.size + 1 + 1)) hgrow z1 (fun k e => by simp at e; omega); have cR5 := (e5.cell (p := ⟨w.heap.size + 1, 0, none⟩) (Nat.lt_succ_self _)).trans cR; have fR5 := (e5.frozen (p := ⟨w.heap.size + 1, 0, none⟩) (Nat.lt_succ_self _)).trans fR; have z5 := e5.size; have b5 := b1.trans (e5.mono (by omega)); have fin := Terms.own (by simpa using hown) F.out)
 clear hown hgrow row0 C cR fR
 go_wp2_with fail
 exact bodyPost_ret (v := .agg #[.slice a' ts.length cap']) (by simp [results, Tryz.results132, go_sem, cR5]) rfl ⟨_, rfl, by (repeat (with_reducible first | exact bR _ _ | assumption | refine bD ?_ | refine bN ?_ _ | refine bA ?_ _ | refine bS ?_ _)), fin.stored (by omega) (by omega)⟩
end Go.Proofs.YthipgpbapdambaaGreat.L

/- Copies of systems: the program's and the model's (written by tools/gen/clones.py). -/
namespace Go.Proofs.YthipgpbapdambaaGreat.L
open Go.RowKit Go.Proofs.YthipgpbapdambaaGreat.S
set_option linter.unusedVariables false
set_option linter.unusedSimpArgs false

/-- A slice of one's own whose row and elements lie in blocks from lo on and below hi. -/
def GrI {α : Type} (E : FShape α) (e : TypeId) (lo hi : Nat) (w : World) (v : Value) (xs : List α) : Prop :=
 ∃ R F : Nat → Prop, GrowF E e true lo R F w v xs ∧ (∀ k, R k → lo ≤ k ∧ k < hi) ∧ (∀ k, F k → lo ≤ k ∧ k < hi) ∧ (∀ k, R k → ¬ F k)
namespace GrI
variable {α : Type} {E : FShape α} {e : TypeId} {lo hi : Nat} {w w' : World} {v : Value} {xs : List α}
theorem nil : GrI E e lo hi w (.slice none 0 0) [] := ⟨fun _ => False, fun _ => False, GrowF.nil, fun _ h => h.elim, fun _ h => h.elim, fun _ h => h.elim⟩
theorem agree (g : GrI E e lo hi w v xs) (s : Same lo hi w w') : GrI E e lo hi w' v xs := by
 obtain ⟨R, F, g, h1, h2, h3⟩ := g
 exact ⟨R, F, g.agree (fun k hk => by rcases hk with q | q; exact s k (h1 k q).1 (h1 k q).2; exact s k (h2 k q).1 (h2 k q).2), h1, h2, h3⟩
theorem keep {B : Nat} (g : GrI E e lo hi w v xs) (b : Below B w w') (h : hi ≤ B) : GrI E e lo hi w' v xs := g.agree (Same.of_below b h)
theorem wide {hi' : Nat} (g : GrI E e lo hi w v xs) (h : hi ≤ hi') : GrI E e lo hi' w v xs := by
 obtain ⟨R, F, g, h1, h2, h3⟩ := g
 exact ⟨R, F, g, fun k q => by have := h1 k q; omega, fun k q => by have := h2 k q; omega, h3⟩
theorem shape (g : GrI E e lo hi w v xs) : ∃ a cap, v = .slice a xs.length cap ∧ xs.length ≤ cap ∧ cap ≤ 9223372036854775807 := by
 obtain ⟨R, F, g, h1, h2, h3⟩ := g; exact g.shape
end GrI

section
variable {P : Program} (w : World) {α : Type} {E : FShape α} {lo hi : Nat}
theorem step_append_I {ops : Array Oper} {op : Oper} {a : Act} {K : Act → World → Prop} {Q : Exit → Act → World → Prop} {Z : Prop} (hgd : op.guard = none) (s x : Operand) (t : TypeId)
  (ho : op.op = .call { callee := .builtin .append, args := #[s, x], argTypes := #[t, t] })
  (e : TypeId) (i : TypeInfo) (z : Value) (bytes : Nat) (ht : P.underlying t = some (.slice e)) (hi0 : P.info? e = some i) (hz : i.zero = some z)
  (hsize : i.size = E.wd) (hby : i.bytes = bytes) (hzs : z.cells.size = E.wd) (hsz : 0 < E.wd)
  (v : Value) (xs : List α) (n : Nat) (hn : xs.length = n) (hs : a.eval s = v) (g : GrI E e lo hi w v xs) (cs : List Value) (y : α) (l' h' : Nat) (hrep : E.rep true (fun k => l' ≤ k ∧ k < h') w cs y) (B : Nat) (fr : Nat × Nat) (hx : a.eval x = .slice (some ⟨B, 0, none⟩) 1 1) (hB : w.heap[B]? = some (.cells cs.toArray e fr))
  (q1 : lo ≤ hi) (q2 : hi ≤ l') (q3 : h' ≤ w.heap.size) (q4 : hi ≤ w.heap.size)
  (h63 : n + 1 ≤ 1000000000) (hbytes : (n + 1) * bytes ≤ 140737488355328)
  (h : ∀ g' cap' w', GrI E e lo w'.heap.size w' (.slice (some ⟨g', 0, none⟩) (n + 1) cap') (xs ++ [y]) ∧ Only lo hi w w' ∧ n + 1 ≤ cap' ∧ cap' ≤ 9223372036854775807 → K (a.put op.dst (.slice (some ⟨g', 0, none⟩) (n + 1) cap')) w') :
  if Region.wanted op (yielded ops a.tmps) = true then Oper.wp P op a w K Q else Z := by
 subst hn
 obtain ⟨R, F, g, h1, h2, h3⟩ := g
 refine step_append_growF w hgd s x t ho e i z bytes ht hi0 hz hsize hby hzs hsz v xs hs g cs y _ hrep B fr hx hB h3 (fun k hk => ?_) (fun k hk => ⟨by omega, fun q => by have := h1 k q; omega⟩) (fun _ k hk hG => by have := h2 k hk; omega) h63 hbytes (by omega) (fun g' cap' w' hh => h g' cap' w' ?_)
 ·rcases hk with q | q
  ·have := h1 k q; omega
  ·have := h2 k q; omega
 ·have hsz' := hh.1.2.size
  refine ⟨⟨_, _, hh.1.1, fun k hk => ?_, fun k hk => ?_, fun k hk hF => ?_⟩, hh.1.2.only h1, hh.2, ?_⟩
  ·rcases hk with q | q
   ·have := h1 k q; omega
   ·have := q.1; have := q.2; omega
  ·rcases hk with q | q
   ·have := h2 k q; omega
   ·omega
  ·rcases hk with q | q
   ·rcases hF with r | r
    ·exact h3 k q r
    ·have := h1 k q; omega
   ·have := q.1
    rcases hF with r | r
    ·have := h2 k r; omega
    ·omega
  ·obtain ⟨_, _, e1, _, e2⟩ := hh.1.1.shape
   simp only [Value.slice.injEq] at e1
   rw [e1.2.2]; exact e2
end

/-- Four cells of a block. -/
def Box4 (w : World) (b : Nat) (v0 v1 v2 v3 : Value) : Prop := w.cell? ⟨b, 0, none⟩ = some v0 ∧ w.cell? ⟨b, 1, none⟩ = some v1 ∧ w.cell? ⟨b, 2, none⟩ = some v2 ∧ w.cell? ⟨b, 3, none⟩ = some v3
def Free4 (w : World) (b : Nat) : Prop := w.frozen? ⟨b, 0, none⟩ = false ∧ w.frozen? ⟨b, 1, none⟩ = false ∧ w.frozen? ⟨b, 2, none⟩ = false ∧ w.frozen? ⟨b, 3, none⟩ = false
theorem Box4.same {w w' : World} {b : Nat} {v0 v1 v2 v3 : Value} (h : Box4 w b v0 v1 v2 v3) (s : w'.heap[b]? = w.heap[b]?) : Box4 w' b v0 v1 v2 v3 := by
 unfold Box4
 rw [World.cell?_of_block (a := ⟨b, 0, none⟩) s, World.cell?_of_block (a := ⟨b, 1, none⟩) s, World.cell?_of_block (a := ⟨b, 2, none⟩) s, World.cell?_of_block (a := ⟨b, 3, none⟩) s]
 exact h
theorem Free4.same {w w' : World} {b : Nat} (h : Free4 w b) (s : w'.heap[b]? = w.heap[b]?) : Free4 w' b := by
 unfold Free4
 rw [World.frozen?_of_block (a := ⟨b, 0, none⟩) s, World.frozen?_of_block (a := ⟨b, 1, none⟩) s, World.frozen?_of_block (a := ⟨b, 2, none⟩) s, World.frozen?_of_block (a := ⟨b, 3, none⟩) s]
 exact h
theorem Box4.lt {w : World} {b : Nat} {v0 v1 v2 v3 : Value} (h : Box4 w b v0 v1 v2 v3) : b < w.heap.size := World.block_lt_of_cell? _ _ h.1
theorem Box4.keep {w w' : World} {B b : Nat} {v0 v1 v2 v3 : Value} (h : Box4 w b v0 v1 v2 v3) (s : Below B w w') (hb : b < B) : Box4 w' b v0 v1 v2 v3 := h.same (s.block b hb)
theorem Free4.keep {w w' : World} {B b : Nat} (h : Free4 w b) (s : Below B w w') (hb : b < B) : Free4 w' b := h.same (s.block b hb)
theorem Box4.only {w w' : World} {lo hi b : Nat} {v0 v1 v2 v3 : Value} (h : Box4 w b v0 v1 v2 v3) (s : Only lo hi w w') (hb : b < lo ∨ hi ≤ b) : Box4 w' b v0 v1 v2 v3 := h.same (s.block b h.lt hb)
theorem Free4.only {w w' : World} {lo hi b : Nat} (h : Free4 w b) (s : Only lo hi w w') (hz : b < w.heap.size) (hb : b < lo ∨ hi ≤ b) : Free4 w' b := h.same (s.block b hz hb)
theorem Free4.set {w : World} {b : Nat} (h : Free4 w b) (p : Addr) (u : Value) : Free4 (w.setCell p u) b := by unfold Free4; simp only [World.frozen?_setCell]; exact h
theorem Box4.set1 {w : World} {b : Nat} {v0 v1 v2 v3 : Value} (h : Box4 w b v0 v1 v2 v3) (u : Value) : Box4 (w.setCell ⟨b, 1, none⟩ u) b v0 u v2 v3 :=
 ⟨(World.cell?_setCell_other _ _ _ _ (by simp)).trans h.1, World.cell?_setCell_same _ _ _ h.2.1, (World.cell?_setCell_other _ _ _ _ (by simp)).trans h.2.2.1, (World.cell?_setCell_other _ _ _ _ (by simp)).trans h.2.2.2⟩
theorem Box4.set2 {w : World} {b : Nat} {v0 v1 v2 v3 : Value} (h : Box4 w b v0 v1 v2 v3) (u : Value) : Box4 (w.setCell ⟨b, 2, none⟩ u) b v0 v1 u v3 :=
 ⟨(World.cell?_setCell_other _ _ _ _ (by simp)).trans h.1, (World.cell?_setCell_other _ _ _ _ (by simp)).trans h.2.1, World.cell?_setCell_same _ _ _ h.2.2.1, (World.cell?_setCell_other _ _ _ _ (by simp)).trans h.2.2.2⟩
theorem Box4.set3 {w : World} {b : Nat} {v0 v1 v2 v3 : Value} (h : Box4 w b v0 v1 v2 v3) (u : Value) : Box4 (w.setCell ⟨b, 3, none⟩ u) b v0 v1 v2 u :=
 ⟨(World.cell?_setCell_other _ _ _ _ (by simp)).trans h.1, (World.cell?_setCell_other _ _ _ _ (by simp)).trans h.2.1, (World.cell?_setCell_other _ _ _ _ (by simp)).trans h.2.2.1, World.cell?_setCell_same _ _ _ h.2.2.2⟩
/-- A system in blocks of one's own, from lo on and below hi: three rows that grow, none on another's blocks. -/
def OwnS (lo hi : Nat) (w : World) (vi vo vh vc : Value) (s : SysC) : Prop :=
 vi = .int .i64 s.ins ∧ Fits s.ins ∧ ∃ m1 m2, lo ≤ m1 ∧ m1 ≤ m2 ∧ m2 ≤ hi ∧ GrI FShape.lin 53 lo m1 w vo s.outs ∧ GrI FShape.hint 92 m1 m2 w vh s.hints ∧ GrI FShape.con 56 m2 hi w vc s.cons
/-- Where the ways of a round meet: the row has grown by one. -/
def CutG {α : Type} (E : FShape α) (e : TypeId) (lo hi c n : Nat) (xs : List α) (w0 wx : World) (f : Value → Prop) : Prop :=
 ∃ x kx, GrI E e lo wx.heap.size wx (.slice x n kx) xs ∧ n ≤ kx ∧ kx ≤ 9223372036854775807 ∧ w0.heap.size ≤ wx.heap.size ∧ Only c hi w0 wx ∧ f (.slice x n kx)
theorem only_call {lo hi : Nat} {W w w' : World} (h : Only lo hi W w) (f : Below w.heap.size w w') : Only lo hi W w' := h.trans (Only.of_below f (Nat.le_refl _))

def Small (s : SysC) : Prop := s.outs.length ≤ 1048576 ∧ s.hints.length ≤ 1048576 ∧ s.cons.length ≤ 1048576 ∧ (∀ t ∈ s.outs, t.length ≤ 1048576) ∧ (∀ x ∈ s.hints, x.a.length ≤ 1048576 ∧ x.b.length ≤ 1048576) ∧ (∀ c ∈ s.cons, c.a.length ≤ 1048576 ∧ c.b.length ≤ 1048576 ∧ c.c.length ≤ 1048576)
theorem same_sets {l h b : Nat} (w : World) (u0 u1 u2 u3 : Value) (hb : b < l ∨ h ≤ b) : Same l h w ((((w.setCell ⟨b, 0, none⟩ u0).setCell ⟨b, 1, none⟩ u1).setCell ⟨b, 2, none⟩ u2).setCell ⟨b, 3, none⟩ u3) := fun k h1 h2 => by
 rw [Below.heap_setCell _ _ _ _ (show k ≠ b by omega), Below.heap_setCell _ _ _ _ (show k ≠ b by omega), Below.heap_setCell _ _ _ _ (show k ≠ b by omega), Below.heap_setCell _ _ _ _ (show k ≠ b by omega)]

set_option maxRecDepth 100000 in
set_option maxHeartbeats 12800000 in
theorem sysClone_any (o l h vi vo vh vc) (s : SysC) (w : World) (t : SysR o l h w vi vo vh vc s) (hw : h ≤ w.heap.size) (sm : Small s) :
  Calls Tryz.prog 122 #[.agg #[vi, vo, vh, vc]] w fun e w' => ∃ ui uo uh uc, e = .returned (.agg #[ui, uo, uh, uc]) ∧ Below w.heap.size w w' ∧ OwnS (w.heap.size + 3) w'.heap.size w' ui uo uh uc s := by
 obtain ⟨tO, tH, tC⟩ := t.parts
 obtain ⟨ao, ko, ah, kh, ac, kc, rfl, rfl, rfl, rfl, lo, bo, lh, bh, lc, bc, fi⟩ := t.shape
 obtain ⟨no, nh, nc, eo, eh, ec⟩ := sm
 have E1 := Lib.hid eo
 have E2 := Lib.hid eh
 have E3 := Lib.hid ec
 clear eo eh ec t
 obtain ⟨i1, hi1, hz1, hs1, hb1⟩ := info_parts linInfo
 obtain ⟨i2, hi2, hz2, hs2, hb2⟩ := info_parts HintInfo
 obtain ⟨i3, hi3, hz3, hs3, hb3⟩ := info_parts ConInfo
 go_enter Tryz.func122, Tryz.ntmps122
 go_wp2_with fail
 refine name_wp fun w1 hw1 => ?_
 have bs : Below w.heap.size w w1 := by rw [hw1]; (repeat (with_reducible first | exact bR _ _ | assumption | refine bD ?_ | refine bN ?_ _ | refine bA ?_ _ | refine bS ?_ _))
 have zs : w.heap.size + 3 ≤ w1.heap.size := by rw [hw1]; simp
 have BA : Box4 w1 w.heap.size (.int .i64 s.ins) (.slice ao s.outs.length ko) (.slice ah s.hints.length kh) (.slice ac s.cons.length kc) := ⟨(by rw [hw1]; first | (simp; done) | go_simp), (by rw [hw1]; first | (simp; done) | go_simp), (by rw [hw1]; first | (simp; done) | go_simp), (by rw [hw1]; first | (simp; done) | go_simp)⟩
 have BR : Box4 w1 (w.heap.size + 1) (.int .i64 0) (.slice none 0 0) (.slice none 0 0) (.slice none 0 0) := ⟨(by rw [hw1]; first | (simp; done) | go_simp), (by rw [hw1]; first | (simp; done) | go_simp), (by rw [hw1]; first | (simp; done) | go_simp), (by rw [hw1]; first | (simp; done) | go_simp)⟩
 have BC : Box4 w1 (w.heap.size + 1 + 1) (.int .i64 s.ins) (.slice none 0 0) (.slice none 0 0) (.slice none 0 0) := ⟨(by rw [hw1]; first | (simp; done) | go_simp), (by rw [hw1]; first | (simp; done) | go_simp), (by rw [hw1]; first | (simp; done) | go_simp), (by rw [hw1]; first | (simp; done) | go_simp)⟩
 have FR : Free4 w1 (w.heap.size + 1) := ⟨(by rw [hw1]; first | (simp; done) | go_simp), (by rw [hw1]; first | (simp; done) | go_simp), (by rw [hw1]; first | (simp; done) | go_simp), (by rw [hw1]; first | (simp; done) | go_simp)⟩
 have FC : Free4 w1 (w.heap.size + 1 + 1) := ⟨(by rw [hw1]; first | (simp; done) | go_simp), (by rw [hw1]; first | (simp; done) | go_simp), (by rw [hw1]; first | (simp; done) | go_simp), (by rw [hw1]; first | (simp; done) | go_simp)⟩
 clear hw1
 go_loopw [16] (fun i wr => ∃ (k : Nat) (x : Option Addr) (kx : Nat), k ≤ s.outs.length ∧ i = .int .i64 k ∧ Below w.heap.size w wr ∧ (w.heap.size + 1 + 1 + 1) ≤ wr.heap.size ∧ Box4 wr w.heap.size (.int .i64 s.ins) (.slice ao s.outs.length ko) (.slice ah s.hints.length kh) (.slice ac s.cons.length kc) ∧ Box4 wr (w.heap.size + 1) (.int .i64 0) (.slice none 0 0) (.slice none 0 0) (.slice none 0 0) ∧ Box4 wr (w.heap.size + 1 + 1) (.int .i64 s.ins) (.slice x k kx) ((.slice none 0 0)) ((.slice none 0 0)) ∧ Free4 wr (w.heap.size + 1) ∧ Free4 wr (w.heap.size + 1 + 1) ∧ GrI FShape.lin 53 (w.heap.size + 1 + 1 + 1) wr.heap.size wr (.slice x k kx) (s.outs.take k) ∧ k ≤ kx ∧ kx ≤ 9223372036854775807) (fun i _ => s.outs.length - (intOf i).toNat)
 case atStart => exact ⟨0, none, 0, Nat.zero_le _, rfl, bs, by omega, BA, BR, BC, FR, FC, GrI.nil, Nat.le_refl _, by omega⟩
 case round =>
  clear bs BA BR BC FR FC zs
  obtain ⟨k, x0, kx0, hk, rfl, be, zz, BA, BR, BC, FR, FC, G, lx0, bx0⟩ := hrel
  by_cases hlt : k < s.outs.length
  ·obtain ⟨b, off, va, rfl, p1, p2, c0, ta⟩ := (tO.keep be hw).at hlt
   obtain ⟨ya, ka, rfl, la', ba'⟩ := ta.shape
   have EL := E1.out _ (List.getElem_mem hlt)
   have HT : Hid (s.outs.take (k + 1) = s.outs.take k ++ [s.outs[k]]) := Lib.hid (take_step (List.getElem?_eq_getElem hlt))
   have HL : Hid ((s.outs.take k).length = k) := Lib.hid (by simp; omega)
   have bl : b < wr.heap.size := World.block_lt_of_cell? _ _ c0
   go_wp2_with fail
   refine name_wp fun w1 hw1 => ?_
   have e1 : Below wr.heap.size wr w1 := by rw [hw1]; (repeat (with_reducible first | exact bR _ _ | assumption | refine bD ?_ | refine bN ?_ _ | refine bA ?_ _ | refine bS ?_ _))
   have z1 : wr.heap.size + 1 ≤ w1.heap.size := by rw [hw1]; simp
   have h0 : w1.cell? ⟨wr.heap.size, 0, none⟩ = some (.slice ya s.outs[k].length ka) := by rw [hw1]; first | (simp; done) | go_simp
   have dd : Below w1.heap.size w1 w1.drew := (Below.refl _ _).drew
   have zd : w1.heap.size ≤ w1.drew.heap.size := Nat.le_refl _
   have ze : w1.drew.heap.size ≤ w1.heap.size := Nat.le_refl _
   have bd : Below wr.heap.size wr w1.drew := e1.trans (dd.mono (by omega))
   clear hw1
   have g0 := cell_keep dd h0
   have gC : w1.drew.cell? ⟨w.heap.size + 1 + 1, 1, none⟩ = some (.slice x0 k kx0) := (BC.keep bd (by omega)).2.1
   have G1 := G.keep bd (Nat.le_refl _)
   have BC1 := BC.keep bd (by omega)
   have FC1 := FC.keep bd (by omega)
   have t1a := ta.keep bd (by omega)
   have K0 : Hid (∀ w', Only (w.heap.size + 1 + 1 + 1) wr.heap.size w1.drew w' → w'.cell? ⟨wr.heap.size, 0, none⟩ = some (.slice ya s.outs[k].length ka)) := Lib.hid (fun w' h => (h.cell (by omega) (by omega) _).trans g0)
   have K1 : Hid (∀ w', Only (w.heap.size + 1 + 1 + 1) wr.heap.size w1.drew w' → w'.cell? ⟨w.heap.size + 1 + 1, 1, none⟩ = some (.slice x0 k kx0)) := Lib.hid (fun w' h => (h.cell (by omega) (by omega) _).trans gC)
   clear BC FC h0 c0 
   have o0 : Only (w.heap.size + 1 + 1 + 1) wr.heap.size w1.drew w1.drew := Only.refl _ _ _
   have s0 : Below wr.heap.size w1.drew w1.drew := Below.refl _ _
   refine wp_region_tailL (S := fun w' => Only (w.heap.size + 1 + 1 + 1) wr.heap.size w1.drew w' ∧ w'.cell? ⟨wr.heap.size, 0, none⟩ = some (.slice ya s.outs[k].length ka) ∧ w'.cell? ⟨w.heap.size + 1 + 1, 1, none⟩ = some (.slice x0 k kx0)) (by kernel_rfl) (by simp) (by kernel_rfl) ⟨o0, K0.out _ o0, K1.out _ o0⟩ (fun hHeld => ?_)
   simp only [List.dropLast_cons_cons, List.dropLast_singleton, List.getLast_cons_cons, List.getLast_singleton]
   refine wpAnyH_take (i := 0) rfl (by kernel_rfl) (by kernel_rfl) (by kernel_rfl) (fun _ _ _ h => h) (v := ?_) (Or.inl ⟨by rfl, ?_⟩) (by assumption) ?_
   case refine_2 => (intro w hSw; (try dsimp only at hSw); go_simp; (try with_reducible rfl))
   try simp only [Act.put, List.setIfInBounds_toArray, List.set_cons_zero, List.set_cons_succ, List.getElem_toArray, List.getElem_cons_succ, List.getElem_cons_zero]
   refine wpAnyH_take (i := 1) rfl (by kernel_rfl) (by kernel_rfl) (by kernel_rfl) (fun _ _ _ h => h) (v := ?_) (Or.inl ⟨by rfl, ?_⟩) (by assumption) ?_
   case refine_2 => (intro w hSw; (try dsimp only at hSw); go_simp; (try with_reducible rfl))
   try simp only [Act.put, List.setIfInBounds_toArray, List.set_cons_zero, List.set_cons_succ, List.getElem_toArray, List.getElem_cons_succ, List.getElem_cons_zero]
   refine wpAnyH_take (i := 2) rfl (by kernel_rfl) (by kernel_rfl) (by kernel_rfl) (fun _ _ _ h => h) (v := ?_) (Or.inl ⟨by rfl, ?_⟩) (by assumption) ?_
   case refine_2 => (intro w hSw; (try dsimp only at hSw); go_simp; (try with_reducible rfl))
   try simp only [Act.put, List.setIfInBounds_toArray, List.set_cons_zero, List.set_cons_succ, List.getElem_toArray, List.getElem_cons_succ, List.getElem_cons_zero]
   refine wpAnyH_ready (rs := [3]) (by kernel_rfl) (by simp) ?_
   refine (AllReadyH.cons rfl (fun K hK => ?_) AllReadyH.nil)
   ·skip
    go_simp
    go_at_call 126
    refine (clone_any o l h (.slice ya s.outs[k].length ka) s.outs[k] w1.drew (t1a.keep s0 (by omega)) (by omega) (by omega)).mono ?_
    rintro e va ⟨ua, rfl, fa, Ta⟩
    obtain ⟨xa, ca, rfl, La, Ma⟩ := Ta.shape
    have Za := fa.size
    have oa := only_call o0 fa
    have sa := Below.trans s0 (fa.mono (by omega))
    refine hK.out _ _ ⟨oa, K0.out _ oa, K1.out _ oa⟩ (fun hHeld => ?_)
    clear hK K
    try simp only [Act.put, List.setIfInBounds_toArray, List.set_cons_zero, List.set_cons_succ, List.getElem_toArray, List.getElem_cons_succ, List.getElem_cons_zero]
    refine wpAnyH_ready (rs := [4]) (by kernel_rfl) (by simp) ?_
    refine AllReadyH.cons rfl (fun K hK => ?_) AllReadyH.nil
    go_simp
    have oA := oa.alloc (.cells #[.slice xa s.outs[k].length ca] 53)
    have sA : Below wr.heap.size w1.drew (va.alloc (.cells #[.slice xa s.outs[k].length ca] 53)) := balloc (by omega) sa _
    refine hK.out _ _ ⟨oA, K0.out _ oA, K1.out _ oA⟩ (fun hHeld => ?_)
    clear hK K
    try simp only [Act.put, List.setIfInBounds_toArray, List.set_cons_zero, List.set_cons_succ, List.getElem_toArray, List.getElem_cons_succ, List.getElem_cons_zero]
    have Ra := Ta.keep (B := va.heap.size) (balloc (w := va) (by omega) (Below.refl _ _) (.cells #[.slice xa s.outs[k].length ca] 53)) (Nat.le_refl _)
    have GA := G1.keep sA (Nat.le_refl _)
    refine wpAnyH_ready (rs := [5]) (by kernel_rfl) (by simp) ?_
    refine AllReadyH.cons rfl (fun K hK => ?_) AllReadyH.nil
    refine step_append_I (va.alloc (.cells #[.slice xa s.outs[k].length ca] 53)) rfl _ _ 31 rfl 53 i1 (.agg #[.slice none 0 0]) 24 Tryz.underlying31 hi1 hz1 hs1 hb1 rfl (by decide) (.slice x0 k kx0) (s.outs.take k) k HL.out rfl GA [.slice xa s.outs[k].length ca] s.outs[k] w1.drew.heap.size va.heap.size ⟨_, rfl, _, _, fun q i j => ⟨by omega, by omega⟩, Ra⟩ va.heap.size (0, 0) rfl (heap_alloc_new va _) (by omega) (by omega) (by simp) (by simp; omega) (by omega) (by omega) ?_
    rintro g cap y1 ⟨Gn, on1, lc1, mc1⟩
    have oy := oA.trans on1
    refine hK.out _ _ ⟨oy, K0.out _ oy, K1.out _ oy⟩ (fun hHeld => ?_)
    clear hK K
    try simp only [Act.put, List.setIfInBounds_toArray, List.set_cons_zero, List.set_cons_succ, List.getElem_toArray, List.getElem_cons_succ, List.getElem_cons_zero]
    refine wpAnyH_take (i := 6) rfl (by kernel_rfl) (by kernel_rfl) (by kernel_rfl) (fun _ _ _ h => h) (v := ?_) (Or.inl ⟨by rfl, ?_⟩) (by assumption) ?_
    case refine_2 => (intro w hSw; (try dsimp only at hSw); go_simp; (try with_reducible rfl))
    try simp only [Act.put, List.setIfInBounds_toArray, List.set_cons_zero, List.set_cons_succ, List.getElem_toArray, List.getElem_cons_succ, List.getElem_cons_zero]
    refine wpAnyH_done (by kernel_rfl) ?_ _
    show Oper.wp _ _ _ _ _ _
    have BCy := (BC1.only oy (by omega))
    have FCy := (FC1.only oy (by omega) (by omega))
    have cy := BCy.2.1
    have fy := FCy.2.1
    have zy := oy.size
    have on' : Only (w.heap.size + 1 + 1 + 1) wr.heap.size wr y1 := (Only.of_below bd (Nat.le_refl _)).trans oy
    have BA' := BA.only on' (by omega)
    have BR' := BR.only on' (by omega)
    have FR' := FR.only on' (by omega) (by omega)
    have be' : Below w.heap.size w y1 := be.trans (on'.below (by omega) (by omega))
    clear oa sa fa Ta Ra oA sA GA on1 oy hHeld
    go_simp
    go_wp2_with fail
    exact ⟨⟨k + 1, some ⟨g, 0, none⟩, cap, by omega, by go_num, by (repeat (with_reducible first | exact bR _ _ | assumption | refine bD ?_ | refine bN ?_ _ | refine bA ?_ _ | refine bS ?_ _)), by simp; omega, BA'.same (Below.heap_setCell _ _ _ _ (show w.heap.size ≠ w.heap.size + 1 + 1 by omega)), BR'.same (Below.heap_setCell _ _ _ _ (show w.heap.size + 1 ≠ w.heap.size + 1 + 1 by omega)), BCy.set1 _, FR'.set _ _, FCy.set _ _, by rw [HT.out]; exact (Gn.agree (same_set2 (by omega))).wide (by simp), lc1, mc1⟩, by simp [intOf]; omega⟩
  ·obtain rfl : k = s.outs.length := by omega
   rw [List.take_length] at G
   clear hlt hk
   obtain ⟨m1, hm1⟩ : ∃ m, m = wr.heap.size := ⟨_, rfl⟩
   have bs := be
   clear be
   have O0 := G
   clear G
   have e0 : 0 = 0 := rfl
   have zm1 : m1 ≤ wr.heap.size := by omega
   have zn1 : (w.heap.size + 1 + 1 + 1) ≤ m1 := by omega
   have zs := zm1
   rw [← hm1] at O0
   clear hm1
   have qB := BA.2.2.1
   have l0 : w.heap.size < wr.heap.size := BA.lt
   go_wp2_with fail
   clear qB
   go_loopw [31] (fun i wr => ∃ (k : Nat) (x : Option Addr) (kx : Nat), k ≤ s.hints.length ∧ i = .int .i64 k ∧ Below w.heap.size w wr ∧ m1 ≤ wr.heap.size ∧ Box4 wr w.heap.size (.int .i64 s.ins) (.slice ao s.outs.length ko) (.slice ah s.hints.length kh) (.slice ac s.cons.length kc) ∧ Box4 wr (w.heap.size + 1) (.int .i64 0) (.slice none 0 0) (.slice none 0 0) (.slice none 0 0) ∧ Box4 wr (w.heap.size + 1 + 1) (.int .i64 s.ins) (.slice x0 s.outs.length kx0) (.slice x k kx) ((.slice none 0 0)) ∧ Free4 wr (w.heap.size + 1) ∧ Free4 wr (w.heap.size + 1 + 1) ∧ GrI FShape.hint 92 m1 wr.heap.size wr (.slice x k kx) (s.hints.take k) ∧ k ≤ kx ∧ kx ≤ 9223372036854775807 ∧ GrI FShape.lin 53 (w.heap.size + 1 + 1 + 1) m1 wr (.slice x0 s.outs.length kx0) s.outs) (fun i _ => s.hints.length - (intOf i).toNat)
   case atStart => exact ⟨0, none, 0, Nat.zero_le _, rfl, bs, by omega, BA, BR, BC, FR, FC, GrI.nil, Nat.le_refl _, by omega, O0⟩
   case round =>
    clear bs BA BR BC FR FC zs O0
    obtain ⟨k, x1, kx1, hk, rfl, be, zz, BA, BR, BC, FR, FC, G, lx1, bx1, O0⟩ := hrel
    by_cases hlt : k < s.hints.length
    ·obtain ⟨b, off, va, vb, rfl, p1, p2, d0, c0, c1, d3, f0, f3, ta, tb⟩ := (tH.keep be hw).at hlt
     obtain ⟨ya, ka, rfl, la', ba'⟩ := ta.shape
     obtain ⟨yb, kb, rfl, lb', bb'⟩ := tb.shape
     have EL := E2.out _ (List.getElem_mem hlt)
     have HT : Hid (s.hints.take (k + 1) = s.hints.take k ++ [s.hints[k]]) := Lib.hid (take_step (List.getElem?_eq_getElem hlt))
     have HL : Hid ((s.hints.take k).length = k) := Lib.hid (by simp; omega)
     have bl : b < wr.heap.size := World.block_lt_of_cell? _ _ c0
     have f0' := Lib.hid f0
     have f3' := Lib.hid f3
     clear f0 f3
     go_wp2_with fail
     refine name_wp fun w1 hw1 => ?_
     have e1 : Below wr.heap.size wr w1 := by rw [hw1]; (repeat (with_reducible first | exact bR _ _ | assumption | refine bD ?_ | refine bN ?_ _ | refine bA ?_ _ | refine bS ?_ _))
     have z1 : wr.heap.size + 1 ≤ w1.heap.size := by rw [hw1]; simp
     have h0 : w1.cell? ⟨wr.heap.size, 0, none⟩ = some (.int .i64 s.hints[k].kind) := by rw [hw1]; first | (simp; done) | go_simp
     have h1 : w1.cell? ⟨wr.heap.size, 1, none⟩ = some (.slice ya s.hints[k].a.length ka) := by rw [hw1]; first | (simp; done) | go_simp
     have h2 : w1.cell? ⟨wr.heap.size, 2, none⟩ = some (.slice yb s.hints[k].b.length kb) := by rw [hw1]; first | (simp; done) | go_simp
     have h3 : w1.cell? ⟨wr.heap.size, 3, none⟩ = some (.int .i64 s.hints[k].k) := by rw [hw1]; first | (simp; done) | go_simp
     have dd : Below w1.heap.size w1 w1.drew := (Below.refl _ _).drew
     have zd : w1.heap.size ≤ w1.drew.heap.size := Nat.le_refl _
     have ze : w1.drew.heap.size ≤ w1.heap.size := Nat.le_refl _
     have bd : Below wr.heap.size wr w1.drew := e1.trans (dd.mono (by omega))
     clear hw1
     have g0 := cell_keep dd h0
     have g1 := cell_keep dd h1
     have g2 := cell_keep dd h2
     have g3 := cell_keep dd h3
     have gC : w1.drew.cell? ⟨w.heap.size + 1 + 1, 2, none⟩ = some (.slice x1 k kx1) := (BC.keep bd (by omega)).2.2.1
     have G1 := G.keep bd (Nat.le_refl _)
     have BC1 := BC.keep bd (by omega)
     have FC1 := FC.keep bd (by omega)
     have t1a := ta.keep bd (by omega)
     have t1b := tb.keep bd (by omega)
     have K0 : Hid (∀ w', Only m1 wr.heap.size w1.drew w' → w'.cell? ⟨wr.heap.size, 0, none⟩ = some (.int .i64 s.hints[k].kind)) := Lib.hid (fun w' h => (h.cell (by omega) (by omega) _).trans g0)
     have K1 : Hid (∀ w', Only m1 wr.heap.size w1.drew w' → w'.cell? ⟨wr.heap.size, 1, none⟩ = some (.slice ya s.hints[k].a.length ka)) := Lib.hid (fun w' h => (h.cell (by omega) (by omega) _).trans g1)
     have K2 : Hid (∀ w', Only m1 wr.heap.size w1.drew w' → w'.cell? ⟨wr.heap.size, 2, none⟩ = some (.slice yb s.hints[k].b.length kb)) := Lib.hid (fun w' h => (h.cell (by omega) (by omega) _).trans g2)
     have K3 : Hid (∀ w', Only m1 wr.heap.size w1.drew w' → w'.cell? ⟨wr.heap.size, 3, none⟩ = some (.int .i64 s.hints[k].k)) := Lib.hid (fun w' h => (h.cell (by omega) (by omega) _).trans g3)
     have K4 : Hid (∀ w', Only m1 wr.heap.size w1.drew w' → w'.cell? ⟨w.heap.size + 1 + 1, 2, none⟩ = some (.slice x1 k kx1)) := Lib.hid (fun w' h => (h.cell (by omega) (by omega) _).trans gC)
     clear BC FC h0 h1 h2 h3 c0 d0 c1 d3
     have o0 : Only m1 wr.heap.size w1.drew w1.drew := Only.refl _ _ _
     have s0 : Below wr.heap.size w1.drew w1.drew := Below.refl _ _
     refine wp_region_tailL (S := fun w' => Only m1 wr.heap.size w1.drew w' ∧ w'.cell? ⟨wr.heap.size, 0, none⟩ = some (.int .i64 s.hints[k].kind) ∧ w'.cell? ⟨wr.heap.size, 1, none⟩ = some (.slice ya s.hints[k].a.length ka) ∧ w'.cell? ⟨wr.heap.size, 2, none⟩ = some (.slice yb s.hints[k].b.length kb) ∧ w'.cell? ⟨wr.heap.size, 3, none⟩ = some (.int .i64 s.hints[k].k) ∧ w'.cell? ⟨w.heap.size + 1 + 1, 2, none⟩ = some (.slice x1 k kx1)) (by kernel_rfl) (by simp) (by kernel_rfl) ⟨o0, K0.out _ o0, K1.out _ o0, K2.out _ o0, K3.out _ o0, K4.out _ o0⟩ (fun hHeld => ?_)
     simp only [List.dropLast_cons_cons, List.dropLast_singleton, List.getLast_cons_cons, List.getLast_singleton]
     refine wpAnyH_take (i := 0) rfl (by kernel_rfl) (by kernel_rfl) (by kernel_rfl) (fun _ _ _ h => h) (v := ?_) (Or.inl ⟨by rfl, ?_⟩) (by assumption) ?_
     case refine_2 => (intro w hSw; (try dsimp only at hSw); go_simp; (try with_reducible rfl))
     try simp only [Act.put, List.setIfInBounds_toArray, List.set_cons_zero, List.set_cons_succ, List.getElem_toArray, List.getElem_cons_succ, List.getElem_cons_zero]
     refine wpAnyH_take (i := 1) rfl (by kernel_rfl) (by kernel_rfl) (by kernel_rfl) (fun _ _ _ h => h) (v := ?_) (Or.inl ⟨by rfl, ?_⟩) (by assumption) ?_
     case refine_2 => (intro w hSw; (try dsimp only at hSw); go_simp; (try with_reducible rfl))
     try simp only [Act.put, List.setIfInBounds_toArray, List.set_cons_zero, List.set_cons_succ, List.getElem_toArray, List.getElem_cons_succ, List.getElem_cons_zero]
     refine wpAnyH_take (i := 2) rfl (by kernel_rfl) (by kernel_rfl) (by kernel_rfl) (fun _ _ _ h => h) (v := ?_) (Or.inl ⟨by rfl, ?_⟩) (by assumption) ?_
     case refine_2 => (intro w hSw; (try dsimp only at hSw); go_simp; (try with_reducible rfl))
     try simp only [Act.put, List.setIfInBounds_toArray, List.set_cons_zero, List.set_cons_succ, List.getElem_toArray, List.getElem_cons_succ, List.getElem_cons_zero]
     refine wpAnyH_take (i := 3) rfl (by kernel_rfl) (by kernel_rfl) (by kernel_rfl) (fun _ _ _ h => h) (v := ?_) (Or.inl ⟨by rfl, ?_⟩) (by assumption) ?_
     case refine_2 => (intro w hSw; (try dsimp only at hSw); go_simp; (try with_reducible rfl))
     try simp only [Act.put, List.setIfInBounds_toArray, List.set_cons_zero, List.set_cons_succ, List.getElem_toArray, List.getElem_cons_succ, List.getElem_cons_zero]
     refine wpAnyH_take (i := 4) rfl (by kernel_rfl) (by kernel_rfl) (by kernel_rfl) (fun _ _ _ h => h) (v := ?_) (Or.inl ⟨by rfl, ?_⟩) (by assumption) ?_
     case refine_2 => (intro w hSw; (try dsimp only at hSw); go_simp; (try with_reducible rfl))
     try simp only [Act.put, List.setIfInBounds_toArray, List.set_cons_zero, List.set_cons_succ, List.getElem_toArray, List.getElem_cons_succ, List.getElem_cons_zero]
     refine wpAnyH_take (i := 5) rfl (by kernel_rfl) (by kernel_rfl) (by kernel_rfl) (fun _ _ _ h => h) (v := ?_) (Or.inl ⟨by rfl, ?_⟩) (by assumption) ?_
     case refine_2 => (intro w hSw; (try dsimp only at hSw); go_simp; (try with_reducible rfl))
     try simp only [Act.put, List.setIfInBounds_toArray, List.set_cons_zero, List.set_cons_succ, List.getElem_toArray, List.getElem_cons_succ, List.getElem_cons_zero]
     refine wpAnyH_take (i := 7) rfl (by kernel_rfl) (by kernel_rfl) (by kernel_rfl) (fun _ _ _ h => h) (v := ?_) (Or.inl ⟨by rfl, ?_⟩) (by assumption) ?_
     case refine_2 => (intro w hSw; (try dsimp only at hSw); go_simp; (try with_reducible rfl))
     try simp only [Act.put, List.setIfInBounds_toArray, List.set_cons_zero, List.set_cons_succ, List.getElem_toArray, List.getElem_cons_succ, List.getElem_cons_zero]
     refine wpAnyH_take (i := 8) rfl (by kernel_rfl) (by kernel_rfl) (by kernel_rfl) (fun _ _ _ h => h) (v := ?_) (Or.inl ⟨by rfl, ?_⟩) (by assumption) ?_
     case refine_2 => (intro w hSw; (try dsimp only at hSw); go_simp; (try with_reducible rfl))
     try simp only [Act.put, List.setIfInBounds_toArray, List.set_cons_zero, List.set_cons_succ, List.getElem_toArray, List.getElem_cons_succ, List.getElem_cons_zero]
     refine wpAnyH_take (i := 10) rfl (by kernel_rfl) (by kernel_rfl) (by kernel_rfl) (fun _ _ _ h => h) (v := ?_) (Or.inl ⟨by rfl, ?_⟩) (by assumption) ?_
     case refine_2 => (intro w hSw; (try dsimp only at hSw); go_simp; (try with_reducible rfl))
     try simp only [Act.put, List.setIfInBounds_toArray, List.set_cons_zero, List.set_cons_succ, List.getElem_toArray, List.getElem_cons_succ, List.getElem_cons_zero]
     refine wpAnyH_take (i := 11) rfl (by kernel_rfl) (by kernel_rfl) (by kernel_rfl) (fun _ _ _ h => h) (v := ?_) (Or.inl ⟨by rfl, ?_⟩) (by assumption) ?_
     case refine_2 => (intro w hSw; (try dsimp only at hSw); go_simp; (try with_reducible rfl))
     try simp only [Act.put, List.setIfInBounds_toArray, List.set_cons_zero, List.set_cons_succ, List.getElem_toArray, List.getElem_cons_succ, List.getElem_cons_zero]
     refine wpAnyH_ready (rs := [6]) (by kernel_rfl) (by simp) ?_
     refine (AllReadyH.cons rfl (fun K hK => ?_) AllReadyH.nil)
     ·skip
      go_simp
      go_at_call 126
      refine (clone_any o l h (.slice ya s.hints[k].a.length ka) s.hints[k].a w1.drew (t1a.keep s0 (by omega)) (by omega) (by omega)).mono ?_
      rintro e va ⟨ua, rfl, fa, Ta⟩
      obtain ⟨xa, ca, rfl, La, Ma⟩ := Ta.shape
      have Za := fa.size
      have oa := only_call o0 fa
      have sa := Below.trans s0 (fa.mono (by omega))
      refine hK.out _ _ ⟨oa, K0.out _ oa, K1.out _ oa, K2.out _ oa, K3.out _ oa, K4.out _ oa⟩ (fun hHeld => ?_)
      clear hK K
      try simp only [Act.put, List.setIfInBounds_toArray, List.set_cons_zero, List.set_cons_succ, List.getElem_toArray, List.getElem_cons_succ, List.getElem_cons_zero]
      refine wpAnyH_ready (rs := [9]) (by kernel_rfl) (by simp) ?_
      refine (AllReadyH.cons rfl (fun K hK => ?_) AllReadyH.nil)
      ·skip
       go_simp
       go_at_call 126
       refine (clone_any o l h (.slice yb s.hints[k].b.length kb) s.hints[k].b va (t1b.keep sa (by omega)) (by omega) (by omega)).mono ?_
       rintro e vb ⟨ub, rfl, fb, Tb⟩
       obtain ⟨xb, cb, rfl, Lb, Mb⟩ := Tb.shape
       have Zb := fb.size
       have ob := only_call oa fb
       have sb := Below.trans sa (fb.mono (by omega))
       refine hK.out _ _ ⟨ob, K0.out _ ob, K1.out _ ob, K2.out _ ob, K3.out _ ob, K4.out _ ob⟩ (fun hHeld => ?_)
       clear hK K
       try simp only [Act.put, List.setIfInBounds_toArray, List.set_cons_zero, List.set_cons_succ, List.getElem_toArray, List.getElem_cons_succ, List.getElem_cons_zero]
       refine wpAnyH_take (i := 12) rfl (by kernel_rfl) (by kernel_rfl) (by kernel_rfl) (fun _ _ _ h => h) (v := ?_) (Or.inl ⟨by rfl, ?_⟩) (by assumption) ?_
       case refine_2 => (intro w hSw; (try dsimp only at hSw); go_simp; (try with_reducible rfl))
       try simp only [Act.put, List.setIfInBounds_toArray, List.set_cons_zero, List.set_cons_succ, List.getElem_toArray, List.getElem_cons_succ, List.getElem_cons_zero]
       refine wpAnyH_ready (rs := [13]) (by kernel_rfl) (by simp) ?_
       refine AllReadyH.cons rfl (fun K hK => ?_) AllReadyH.nil
       go_simp
       have oA := ob.alloc (.cells #[.int .i64 s.hints[k].kind, .slice xa s.hints[k].a.length ca, .slice xb s.hints[k].b.length cb, .int .i64 s.hints[k].k] 92)
       have sA : Below wr.heap.size w1.drew (vb.alloc (.cells #[.int .i64 s.hints[k].kind, .slice xa s.hints[k].a.length ca, .slice xb s.hints[k].b.length cb, .int .i64 s.hints[k].k] 92)) := balloc (by omega) sb _
       refine hK.out _ _ ⟨oA, K0.out _ oA, K1.out _ oA, K2.out _ oA, K3.out _ oA, K4.out _ oA⟩ (fun hHeld => ?_)
       clear hK K
       try simp only [Act.put, List.setIfInBounds_toArray, List.set_cons_zero, List.set_cons_succ, List.getElem_toArray, List.getElem_cons_succ, List.getElem_cons_zero]
       have Ra := Ta.keep (B := va.heap.size) (balloc (w := vb) (by omega) ((Below.refl _ _).trans (fb.mono (by omega))) (.cells #[.int .i64 s.hints[k].kind, .slice xa s.hints[k].a.length ca, .slice xb s.hints[k].b.length cb, .int .i64 s.hints[k].k] 92)) (Nat.le_refl _)
       have Rb := Tb.keep (B := vb.heap.size) (balloc (w := vb) (by omega) (Below.refl _ _) (.cells #[.int .i64 s.hints[k].kind, .slice xa s.hints[k].a.length ca, .slice xb s.hints[k].b.length cb, .int .i64 s.hints[k].k] 92)) (Nat.le_refl _)
       have GA := G1.keep sA (Nat.le_refl _)
       refine wpAnyH_ready (rs := [14]) (by kernel_rfl) (by simp) ?_
       refine AllReadyH.cons rfl (fun K hK => ?_) AllReadyH.nil
       refine step_append_I (vb.alloc (.cells #[.int .i64 s.hints[k].kind, .slice xa s.hints[k].a.length ca, .slice xb s.hints[k].b.length cb, .int .i64 s.hints[k].k] 92)) rfl _ _ 32 rfl 92 i2 (.agg #[.int .i64 0, .slice none 0 0, .slice none 0 0, .int .i64 0]) 64 Tryz.underlying32 hi2 hz2 hs2 hb2 rfl (by decide) (.slice x1 k kx1) (s.hints.take k) k HL.out rfl GA [.int .i64 s.hints[k].kind, .slice xa s.hints[k].a.length ca, .slice xb s.hints[k].b.length cb, .int .i64 s.hints[k].k] s.hints[k] w1.drew.heap.size vb.heap.size ⟨_, _, _, _, _, _, rfl, f0'.out, f3'.out, fun q i j => ⟨by omega, by omega⟩, fun q i j => ⟨by omega, by omega⟩, fun _ => by omega, Ra, Rb⟩ vb.heap.size (0, 0) rfl (heap_alloc_new vb _) (by omega) (by omega) (by simp) (by simp; omega) (by omega) (by omega) ?_
       rintro g cap y1 ⟨Gn, on1, lc1, mc1⟩
       have oy := oA.trans on1
       refine hK.out _ _ ⟨oy, K0.out _ oy, K1.out _ oy, K2.out _ oy, K3.out _ oy, K4.out _ oy⟩ (fun hHeld => ?_)
       clear hK K
       try simp only [Act.put, List.setIfInBounds_toArray, List.set_cons_zero, List.set_cons_succ, List.getElem_toArray, List.getElem_cons_succ, List.getElem_cons_zero]
       refine wpAnyH_take (i := 15) rfl (by kernel_rfl) (by kernel_rfl) (by kernel_rfl) (fun _ _ _ h => h) (v := ?_) (Or.inl ⟨by rfl, ?_⟩) (by assumption) ?_
       case refine_2 => (intro w hSw; (try dsimp only at hSw); go_simp; (try with_reducible rfl))
       try simp only [Act.put, List.setIfInBounds_toArray, List.set_cons_zero, List.set_cons_succ, List.getElem_toArray, List.getElem_cons_succ, List.getElem_cons_zero]
       refine wpAnyH_done (by kernel_rfl) ?_ _
       show Oper.wp _ _ _ _ _ _
       have BCy := (BC1.only oy (by omega))
       have FCy := (FC1.only oy (by omega) (by omega))
       have cy := BCy.2.2.1
       have fy := FCy.2.2.1
       have zy := oy.size
       have on' : Only m1 wr.heap.size wr y1 := (Only.of_below bd (Nat.le_refl _)).trans oy
       have BA' := BA.only on' (by omega)
       have BR' := BR.only on' (by omega)
       have FR' := FR.only on' (by omega) (by omega)
       have be' : Below w.heap.size w y1 := be.trans (on'.below (by omega) (by omega))
       have O0' := O0.agree (Same.of_only on' (by omega) (by omega))
       clear oa sa fa Ta Ra ob sb fb Tb Rb oA sA GA on1 oy hHeld
       go_simp
       go_wp2_with fail
       exact ⟨⟨k + 1, some ⟨g, 0, none⟩, cap, by omega, by go_num, by (repeat (with_reducible first | exact bR _ _ | assumption | refine bD ?_ | refine bN ?_ _ | refine bA ?_ _ | refine bS ?_ _)), by simp; omega, BA'.same (Below.heap_setCell _ _ _ _ (show w.heap.size ≠ w.heap.size + 1 + 1 by omega)), BR'.same (Below.heap_setCell _ _ _ _ (show w.heap.size + 1 ≠ w.heap.size + 1 + 1 by omega)), BCy.set2 _, FR'.set _ _, FCy.set _ _, by rw [HT.out]; exact (Gn.agree (same_set2 (by omega))).wide (by simp), lc1, mc1, O0'.agree (same_set2 (by omega))⟩, by simp [intOf]; omega⟩
    ·obtain rfl : k = s.hints.length := by omega
     rw [List.take_length] at G
     clear hlt hk
     obtain ⟨m2, hm2⟩ : ∃ m, m = wr.heap.size := ⟨_, rfl⟩
     have bs := be
     clear be
     have O1 := G
     clear G
     have e1 : 0 = 0 := rfl
     have zm2 : m2 ≤ wr.heap.size := by omega
     have zn2 : m1 ≤ m2 := by omega
     have zs := zm2
     rw [← hm2] at O1
     clear hm2
     have qB := BA.2.2.2
     have l0 : w.heap.size < wr.heap.size := BA.lt
     go_wp2_with fail
     clear qB
     go_loopw [55] (fun i wr => ∃ (k : Nat) (x : Option Addr) (kx : Nat), k ≤ s.cons.length ∧ i = .int .i64 k ∧ Below w.heap.size w wr ∧ m2 ≤ wr.heap.size ∧ Box4 wr w.heap.size (.int .i64 s.ins) (.slice ao s.outs.length ko) (.slice ah s.hints.length kh) (.slice ac s.cons.length kc) ∧ Box4 wr (w.heap.size + 1) (.int .i64 0) (.slice none 0 0) (.slice none 0 0) (.slice none 0 0) ∧ Box4 wr (w.heap.size + 1 + 1) (.int .i64 s.ins) (.slice x0 s.outs.length kx0) (.slice x1 s.hints.length kx1) (.slice x k kx) ∧ Free4 wr (w.heap.size + 1) ∧ Free4 wr (w.heap.size + 1 + 1) ∧ GrI FShape.con 56 m2 wr.heap.size wr (.slice x k kx) (s.cons.take k) ∧ k ≤ kx ∧ kx ≤ 9223372036854775807 ∧ GrI FShape.lin 53 (w.heap.size + 1 + 1 + 1) m1 wr (.slice x0 s.outs.length kx0) s.outs ∧ GrI FShape.hint 92 m1 m2 wr (.slice x1 s.hints.length kx1) s.hints) (fun i _ => s.cons.length - (intOf i).toNat)
     case atStart => exact ⟨0, none, 0, Nat.zero_le _, rfl, bs, by omega, BA, BR, BC, FR, FC, GrI.nil, Nat.le_refl _, by omega, O0, O1⟩
     case round =>
      clear bs BA BR BC FR FC zs O0 O1
      obtain ⟨k, x2, kx2, hk, rfl, be, zz, BA, BR, BC, FR, FC, G, lx2, bx2, O0, O1⟩ := hrel
      by_cases hlt : k < s.cons.length
      ·obtain ⟨b, off, va, vb, vc, rfl, p1, p2, c0, c1, c2, ta, tb, tc⟩ := (tC.keep be hw).at hlt
       obtain ⟨ya, ka, rfl, la', ba'⟩ := ta.shape
       obtain ⟨yb, kb, rfl, lb', bb'⟩ := tb.shape
       obtain ⟨yc, kc, rfl, lc', bc'⟩ := tc.shape
       have EL := E3.out _ (List.getElem_mem hlt)
       have HT : Hid (s.cons.take (k + 1) = s.cons.take k ++ [s.cons[k]]) := Lib.hid (take_step (List.getElem?_eq_getElem hlt))
       have HL : Hid ((s.cons.take k).length = k) := Lib.hid (by simp; omega)
       have bl : b < wr.heap.size := World.block_lt_of_cell? _ _ c0
       go_wp2_with fail
       refine name_wp fun w1 hw1 => ?_
       have e1 : Below wr.heap.size wr w1 := by rw [hw1]; (repeat (with_reducible first | exact bR _ _ | assumption | refine bD ?_ | refine bN ?_ _ | refine bA ?_ _ | refine bS ?_ _))
       have z1 : wr.heap.size + 1 ≤ w1.heap.size := by rw [hw1]; simp
       have h0 : w1.cell? ⟨wr.heap.size, 0, none⟩ = some (.slice ya s.cons[k].a.length ka) := by rw [hw1]; first | (simp; done) | go_simp
       have h1 : w1.cell? ⟨wr.heap.size, 1, none⟩ = some (.slice yb s.cons[k].b.length kb) := by rw [hw1]; first | (simp; done) | go_simp
       have h2 : w1.cell? ⟨wr.heap.size, 2, none⟩ = some (.slice yc s.cons[k].c.length kc) := by rw [hw1]; first | (simp; done) | go_simp
       have dd : Below w1.heap.size w1 w1.drew := (Below.refl _ _).drew
       have zd : w1.heap.size ≤ w1.drew.heap.size := Nat.le_refl _
       have ze : w1.drew.heap.size ≤ w1.heap.size := Nat.le_refl _
       have bd : Below wr.heap.size wr w1.drew := e1.trans (dd.mono (by omega))
       clear hw1
       have g0 := cell_keep dd h0
       have g1 := cell_keep dd h1
       have g2 := cell_keep dd h2
       have gC : w1.drew.cell? ⟨w.heap.size + 1 + 1, 3, none⟩ = some (.slice x2 k kx2) := (BC.keep bd (by omega)).2.2.2
       have G1 := G.keep bd (Nat.le_refl _)
       have BC1 := BC.keep bd (by omega)
       have FC1 := FC.keep bd (by omega)
       have t1a := ta.keep bd (by omega)
       have t1b := tb.keep bd (by omega)
       have t1c := tc.keep bd (by omega)
       have K0 : Hid (∀ w', Only m2 wr.heap.size w1.drew w' → w'.cell? ⟨wr.heap.size, 0, none⟩ = some (.slice ya s.cons[k].a.length ka)) := Lib.hid (fun w' h => (h.cell (by omega) (by omega) _).trans g0)
       have K1 : Hid (∀ w', Only m2 wr.heap.size w1.drew w' → w'.cell? ⟨wr.heap.size, 1, none⟩ = some (.slice yb s.cons[k].b.length kb)) := Lib.hid (fun w' h => (h.cell (by omega) (by omega) _).trans g1)
       have K2 : Hid (∀ w', Only m2 wr.heap.size w1.drew w' → w'.cell? ⟨wr.heap.size, 2, none⟩ = some (.slice yc s.cons[k].c.length kc)) := Lib.hid (fun w' h => (h.cell (by omega) (by omega) _).trans g2)
       have K3 : Hid (∀ w', Only m2 wr.heap.size w1.drew w' → w'.cell? ⟨w.heap.size + 1 + 1, 3, none⟩ = some (.slice x2 k kx2)) := Lib.hid (fun w' h => (h.cell (by omega) (by omega) _).trans gC)
       clear BC FC h0 h1 h2 c0 c1 c2
       have o0 : Only m2 wr.heap.size w1.drew w1.drew := Only.refl _ _ _
       have s0 : Below wr.heap.size w1.drew w1.drew := Below.refl _ _
       refine wp_region_tailL (S := fun w' => Only m2 wr.heap.size w1.drew w' ∧ w'.cell? ⟨wr.heap.size, 0, none⟩ = some (.slice ya s.cons[k].a.length ka) ∧ w'.cell? ⟨wr.heap.size, 1, none⟩ = some (.slice yb s.cons[k].b.length kb) ∧ w'.cell? ⟨wr.heap.size, 2, none⟩ = some (.slice yc s.cons[k].c.length kc) ∧ w'.cell? ⟨w.heap.size + 1 + 1, 3, none⟩ = some (.slice x2 k kx2)) (by kernel_rfl) (by simp) (by kernel_rfl) ⟨o0, K0.out _ o0, K1.out _ o0, K2.out _ o0, K3.out _ o0⟩ (fun hHeld => ?_)
       simp only [List.dropLast_cons_cons, List.dropLast_singleton, List.getLast_cons_cons, List.getLast_singleton]
       refine wpAnyH_take (i := 0) rfl (by kernel_rfl) (by kernel_rfl) (by kernel_rfl) (fun _ _ _ h => h) (v := ?_) (Or.inl ⟨by rfl, ?_⟩) (by assumption) ?_
       case refine_2 => (intro w hSw; (try dsimp only at hSw); go_simp; (try with_reducible rfl))
       try simp only [Act.put, List.setIfInBounds_toArray, List.set_cons_zero, List.set_cons_succ, List.getElem_toArray, List.getElem_cons_succ, List.getElem_cons_zero]
       refine wpAnyH_take (i := 1) rfl (by kernel_rfl) (by kernel_rfl) (by kernel_rfl) (fun _ _ _ h => h) (v := ?_) (Or.inl ⟨by rfl, ?_⟩) (by assumption) ?_
       case refine_2 => (intro w hSw; (try dsimp only at hSw); go_simp; (try with_reducible rfl))
       try simp only [Act.put, List.setIfInBounds_toArray, List.set_cons_zero, List.set_cons_succ, List.getElem_toArray, List.getElem_cons_succ, List.getElem_cons_zero]
       refine wpAnyH_take (i := 2) rfl (by kernel_rfl) (by kernel_rfl) (by kernel_rfl) (fun _ _ _ h => h) (v := ?_) (Or.inl ⟨by rfl, ?_⟩) (by assumption) ?_
       case refine_2 => (intro w hSw; (try dsimp only at hSw); go_simp; (try with_reducible rfl))
       try simp only [Act.put, List.setIfInBounds_toArray, List.set_cons_zero, List.set_cons_succ, List.getElem_toArray, List.getElem_cons_succ, List.getElem_cons_zero]
       refine wpAnyH_take (i := 3) rfl (by kernel_rfl) (by kernel_rfl) (by kernel_rfl) (fun _ _ _ h => h) (v := ?_) (Or.inl ⟨by rfl, ?_⟩) (by assumption) ?_
       case refine_2 => (intro w hSw; (try dsimp only at hSw); go_simp; (try with_reducible rfl))
       try simp only [Act.put, List.setIfInBounds_toArray, List.set_cons_zero, List.set_cons_succ, List.getElem_toArray, List.getElem_cons_succ, List.getElem_cons_zero]
       refine wpAnyH_take (i := 5) rfl (by kernel_rfl) (by kernel_rfl) (by kernel_rfl) (fun _ _ _ h => h) (v := ?_) (Or.inl ⟨by rfl, ?_⟩) (by assumption) ?_
       case refine_2 => (intro w hSw; (try dsimp only at hSw); go_simp; (try with_reducible rfl))
       try simp only [Act.put, List.setIfInBounds_toArray, List.set_cons_zero, List.set_cons_succ, List.getElem_toArray, List.getElem_cons_succ, List.getElem_cons_zero]
       refine wpAnyH_take (i := 6) rfl (by kernel_rfl) (by kernel_rfl) (by kernel_rfl) (fun _ _ _ h => h) (v := ?_) (Or.inl ⟨by rfl, ?_⟩) (by assumption) ?_
       case refine_2 => (intro w hSw; (try dsimp only at hSw); go_simp; (try with_reducible rfl))
       try simp only [Act.put, List.setIfInBounds_toArray, List.set_cons_zero, List.set_cons_succ, List.getElem_toArray, List.getElem_cons_succ, List.getElem_cons_zero]
       refine wpAnyH_take (i := 8) rfl (by kernel_rfl) (by kernel_rfl) (by kernel_rfl) (fun _ _ _ h => h) (v := ?_) (Or.inl ⟨by rfl, ?_⟩) (by assumption) ?_
       case refine_2 => (intro w hSw; (try dsimp only at hSw); go_simp; (try with_reducible rfl))
       try simp only [Act.put, List.setIfInBounds_toArray, List.set_cons_zero, List.set_cons_succ, List.getElem_toArray, List.getElem_cons_succ, List.getElem_cons_zero]
       refine wpAnyH_take (i := 9) rfl (by kernel_rfl) (by kernel_rfl) (by kernel_rfl) (fun _ _ _ h => h) (v := ?_) (Or.inl ⟨by rfl, ?_⟩) (by assumption) ?_
       case refine_2 => (intro w hSw; (try dsimp only at hSw); go_simp; (try with_reducible rfl))
       try simp only [Act.put, List.setIfInBounds_toArray, List.set_cons_zero, List.set_cons_succ, List.getElem_toArray, List.getElem_cons_succ, List.getElem_cons_zero]
       refine wpAnyH_ready (rs := [4]) (by kernel_rfl) (by simp) ?_
       refine (AllReadyH.cons rfl (fun K hK => ?_) AllReadyH.nil)
       ·skip
        go_simp
        go_at_call 126
        refine (clone_any o l h (.slice ya s.cons[k].a.length ka) s.cons[k].a w1.drew (t1a.keep s0 (by omega)) (by omega) (by omega)).mono ?_
        rintro e va ⟨ua, rfl, fa, Ta⟩
        obtain ⟨xa, ca, rfl, La, Ma⟩ := Ta.shape
        have Za := fa.size
        have oa := only_call o0 fa
        have sa := Below.trans s0 (fa.mono (by omega))
        refine hK.out _ _ ⟨oa, K0.out _ oa, K1.out _ oa, K2.out _ oa, K3.out _ oa⟩ (fun hHeld => ?_)
        clear hK K
        try simp only [Act.put, List.setIfInBounds_toArray, List.set_cons_zero, List.set_cons_succ, List.getElem_toArray, List.getElem_cons_succ, List.getElem_cons_zero]
        refine wpAnyH_ready (rs := [7]) (by kernel_rfl) (by simp) ?_
        refine (AllReadyH.cons rfl (fun K hK => ?_) AllReadyH.nil)
        ·skip
         go_simp
         go_at_call 126
         refine (clone_any o l h (.slice yb s.cons[k].b.length kb) s.cons[k].b va (t1b.keep sa (by omega)) (by omega) (by omega)).mono ?_
         rintro e vb ⟨ub, rfl, fb, Tb⟩
         obtain ⟨xb, cb, rfl, Lb, Mb⟩ := Tb.shape
         have Zb := fb.size
         have ob := only_call oa fb
         have sb := Below.trans sa (fb.mono (by omega))
         refine hK.out _ _ ⟨ob, K0.out _ ob, K1.out _ ob, K2.out _ ob, K3.out _ ob⟩ (fun hHeld => ?_)
         clear hK K
         try simp only [Act.put, List.setIfInBounds_toArray, List.set_cons_zero, List.set_cons_succ, List.getElem_toArray, List.getElem_cons_succ, List.getElem_cons_zero]
         refine wpAnyH_ready (rs := [10]) (by kernel_rfl) (by simp) ?_
         refine (AllReadyH.cons rfl (fun K hK => ?_) AllReadyH.nil)
         ·skip
          go_simp
          go_at_call 126
          refine (clone_any o l h (.slice yc s.cons[k].c.length kc) s.cons[k].c vb (t1c.keep sb (by omega)) (by omega) (by omega)).mono ?_
          rintro e vc ⟨uc, rfl, fc, Tc⟩
          obtain ⟨xc, cc, rfl, Lc, Mc⟩ := Tc.shape
          have Zc := fc.size
          have oc := only_call ob fc
          have sc := Below.trans sb (fc.mono (by omega))
          refine hK.out _ _ ⟨oc, K0.out _ oc, K1.out _ oc, K2.out _ oc, K3.out _ oc⟩ (fun hHeld => ?_)
          clear hK K
          try simp only [Act.put, List.setIfInBounds_toArray, List.set_cons_zero, List.set_cons_succ, List.getElem_toArray, List.getElem_cons_succ, List.getElem_cons_zero]
          refine wpAnyH_take (i := 11) rfl (by kernel_rfl) (by kernel_rfl) (by kernel_rfl) (fun _ _ _ h => h) (v := ?_) (Or.inl ⟨by rfl, ?_⟩) (by assumption) ?_
          case refine_2 => (intro w hSw; (try dsimp only at hSw); go_simp; (try with_reducible rfl))
          try simp only [Act.put, List.setIfInBounds_toArray, List.set_cons_zero, List.set_cons_succ, List.getElem_toArray, List.getElem_cons_succ, List.getElem_cons_zero]
          refine wpAnyH_ready (rs := [12]) (by kernel_rfl) (by simp) ?_
          refine AllReadyH.cons rfl (fun K hK => ?_) AllReadyH.nil
          go_simp
          have oA := oc.alloc (.cells #[.slice xa s.cons[k].a.length ca, .slice xb s.cons[k].b.length cb, .slice xc s.cons[k].c.length cc] 56)
          have sA : Below wr.heap.size w1.drew (vc.alloc (.cells #[.slice xa s.cons[k].a.length ca, .slice xb s.cons[k].b.length cb, .slice xc s.cons[k].c.length cc] 56)) := balloc (by omega) sc _
          refine hK.out _ _ ⟨oA, K0.out _ oA, K1.out _ oA, K2.out _ oA, K3.out _ oA⟩ (fun hHeld => ?_)
          clear hK K
          try simp only [Act.put, List.setIfInBounds_toArray, List.set_cons_zero, List.set_cons_succ, List.getElem_toArray, List.getElem_cons_succ, List.getElem_cons_zero]
          have Ra := Ta.keep (B := va.heap.size) (balloc (w := vc) (by omega) (((Below.refl _ _).trans (fb.mono (by omega))).trans (fc.mono (by omega))) (.cells #[.slice xa s.cons[k].a.length ca, .slice xb s.cons[k].b.length cb, .slice xc s.cons[k].c.length cc] 56)) (Nat.le_refl _)
          have Rb := Tb.keep (B := vb.heap.size) (balloc (w := vc) (by omega) ((Below.refl _ _).trans (fc.mono (by omega))) (.cells #[.slice xa s.cons[k].a.length ca, .slice xb s.cons[k].b.length cb, .slice xc s.cons[k].c.length cc] 56)) (Nat.le_refl _)
          have Rc := Tc.keep (B := vc.heap.size) (balloc (w := vc) (by omega) (Below.refl _ _) (.cells #[.slice xa s.cons[k].a.length ca, .slice xb s.cons[k].b.length cb, .slice xc s.cons[k].c.length cc] 56)) (Nat.le_refl _)
          have GA := G1.keep sA (Nat.le_refl _)
          refine wpAnyH_ready (rs := [13]) (by kernel_rfl) (by simp) ?_
          refine AllReadyH.cons rfl (fun K hK => ?_) AllReadyH.nil
          refine step_append_I (vc.alloc (.cells #[.slice xa s.cons[k].a.length ca, .slice xb s.cons[k].b.length cb, .slice xc s.cons[k].c.length cc] 56)) rfl _ _ 33 rfl 56 i3 (.agg #[.slice none 0 0, .slice none 0 0, .slice none 0 0]) 72 Tryz.underlying33 hi3 hz3 hs3 hb3 rfl (by decide) (.slice x2 k kx2) (s.cons.take k) k HL.out rfl GA [.slice xa s.cons[k].a.length ca, .slice xb s.cons[k].b.length cb, .slice xc s.cons[k].c.length cc] s.cons[k] w1.drew.heap.size vc.heap.size ⟨_, _, _, _, _, _, _, _, _, rfl, fun q i j => ⟨by omega, by omega⟩, fun q i j => ⟨by omega, by omega⟩, fun q i j => ⟨by omega, by omega⟩, fun _ => ⟨by omega, by omega, by omega⟩, Ra, Rb, Rc⟩ vc.heap.size (0, 0) rfl (heap_alloc_new vc _) (by omega) (by omega) (by simp) (by simp; omega) (by omega) (by omega) ?_
          rintro g cap y1 ⟨Gn, on1, lc1, mc1⟩
          have oy := oA.trans on1
          refine hK.out _ _ ⟨oy, K0.out _ oy, K1.out _ oy, K2.out _ oy, K3.out _ oy⟩ (fun hHeld => ?_)
          clear hK K
          try simp only [Act.put, List.setIfInBounds_toArray, List.set_cons_zero, List.set_cons_succ, List.getElem_toArray, List.getElem_cons_succ, List.getElem_cons_zero]
          refine wpAnyH_take (i := 14) rfl (by kernel_rfl) (by kernel_rfl) (by kernel_rfl) (fun _ _ _ h => h) (v := ?_) (Or.inl ⟨by rfl, ?_⟩) (by assumption) ?_
          case refine_2 => (intro w hSw; (try dsimp only at hSw); go_simp; (try with_reducible rfl))
          try simp only [Act.put, List.setIfInBounds_toArray, List.set_cons_zero, List.set_cons_succ, List.getElem_toArray, List.getElem_cons_succ, List.getElem_cons_zero]
          refine wpAnyH_done (by kernel_rfl) ?_ _
          show Oper.wp _ _ _ _ _ _
          have BCy := (BC1.only oy (by omega))
          have FCy := (FC1.only oy (by omega) (by omega))
          have cy := BCy.2.2.2
          have fy := FCy.2.2.2
          have zy := oy.size
          have on' : Only m2 wr.heap.size wr y1 := (Only.of_below bd (Nat.le_refl _)).trans oy
          have BA' := BA.only on' (by omega)
          have BR' := BR.only on' (by omega)
          have FR' := FR.only on' (by omega) (by omega)
          have be' : Below w.heap.size w y1 := be.trans (on'.below (by omega) (by omega))
          have O0' := O0.agree (Same.of_only on' (by omega) (by omega))
          have O1' := O1.agree (Same.of_only on' (by omega) (by omega))
          clear oa sa fa Ta Ra ob sb fb Tb Rb oc sc fc Tc Rc oA sA GA on1 oy hHeld
          go_simp
          go_wp2_with fail
          exact ⟨⟨k + 1, some ⟨g, 0, none⟩, cap, by omega, by go_num, by (repeat (with_reducible first | exact bR _ _ | assumption | refine bD ?_ | refine bN ?_ _ | refine bA ?_ _ | refine bS ?_ _)), by simp; omega, BA'.same (Below.heap_setCell _ _ _ _ (show w.heap.size ≠ w.heap.size + 1 + 1 by omega)), BR'.same (Below.heap_setCell _ _ _ _ (show w.heap.size + 1 ≠ w.heap.size + 1 + 1 by omega)), BCy.set3 _, FR'.set _ _, FCy.set _ _, by rw [HT.out]; exact (Gn.agree (same_set2 (by omega))).wide (by simp), lc1, mc1, O0'.agree (same_set2 (by omega)), O1'.agree (same_set2 (by omega))⟩, by simp [intOf]; omega⟩
      ·obtain rfl : k = s.cons.length := by omega
       rw [List.take_length] at G
       clear hlt hk
       obtain ⟨m3, hm3⟩ : ∃ m, m = wr.heap.size := ⟨_, rfl⟩
       clear hm3
       have c0 := BC.1
       have r0 := BR.1
       have f0 := FR.1
       have c1 := BC.2.1
       have r1 := BR.2.1
       have f1 := FR.2.1
       have c2 := BC.2.2.1
       have r2 := BR.2.2.1
       have f2 := FR.2.2.1
       have c3 := BC.2.2.2
       have r3 := BR.2.2.2
       have f3 := FR.2.2.2
       have l0 : w.heap.size < wr.heap.size := BA.lt
       have l1 : w.heap.size + 1 < wr.heap.size := BR.lt
       have l2 : w.heap.size + 1 + 1 < wr.heap.size := BC.lt
       go_wp2_with fail
       exact bodyPost_ret (v := .agg #[.int .i64 s.ins, .slice x0 s.outs.length kx0, .slice x1 s.hints.length kx1, .slice x2 s.cons.length kx2]) (by simp [results, Tryz.results122, go_sem, r0, r1, r2, r3]) rfl ⟨_, _, _, _, rfl, by (repeat (with_reducible first | exact bR _ _ | assumption | refine bD ?_ | refine bN ?_ _ | refine bA ?_ _ | refine bS ?_ _)), rfl, fi, m1, m2, by omega, by omega, by simp; omega, O0.agree (same_sets _ _ _ _ _ (.inl (by omega))), O1.agree (same_sets _ _ _ _ _ (.inl (by omega))), (G.agree (same_sets _ _ _ _ _ (.inl (by omega)))).wide (by simp)⟩
end Go.Proofs.YthipgpbapdambaaGreat.L

/- Copies of systems: the model's (written by tools/gen/clones.py). -/
namespace Go.Proofs.YthipgpbapdambaaGreat.L
open Go.RowKit Go.Proofs.YthipgpbapdambaaGreat.S
set_option linter.unusedVariables false
set_option linter.unusedSimpArgs false

set_option maxRecDepth 100000 in
set_option maxHeartbeats 12800000 in
theorem l3own_any (o l h vi vo vh vc) (s : SysC) (w : World) (t : SysR o l h w vi vo vh vc s) (hw : h ≤ w.heap.size) (sm : Small s) :
  Calls Tryz.prog 117 #[.agg #[vi, vo, vh, vc]] w fun e w' => ∃ ui uo uh uc, e = .returned (.agg #[ui, uo, uh, uc]) ∧ Below w.heap.size w w' ∧ OwnS (w.heap.size + 3) w'.heap.size w' ui uo uh uc s := by
 obtain ⟨tO, tH, tC⟩ := t.parts
 obtain ⟨ao, ko, ah, kh, ac, kc, rfl, rfl, rfl, rfl, lo, bo, lh, bh, lc, bc, fi⟩ := t.shape
 obtain ⟨no, nh, nc, eo, eh, ec⟩ := sm
 have E1 := Lib.hid eo
 have E2 := Lib.hid eh
 have E3 := Lib.hid ec
 clear eo eh ec t
 obtain ⟨i1, hi1, hz1, hs1, hb1⟩ := info_parts linInfo
 obtain ⟨i2, hi2, hz2, hs2, hb2⟩ := info_parts HintInfo
 obtain ⟨i3, hi3, hz3, hs3, hb3⟩ := info_parts ConInfo
 go_enter Tryz.func117, Tryz.ntmps117
 go_wp2_with fail
 refine name_wp fun w1 hw1 => ?_
 have bs : Below w.heap.size w w1 := by rw [hw1]; (repeat (with_reducible first | exact bR _ _ | assumption | refine bD ?_ | refine bN ?_ _ | refine bA ?_ _ | refine bS ?_ _))
 have zs : w.heap.size + 3 ≤ w1.heap.size := by rw [hw1]; simp
 have BA : Box4 w1 w.heap.size (.int .i64 s.ins) (.slice ao s.outs.length ko) (.slice ah s.hints.length kh) (.slice ac s.cons.length kc) := ⟨(by rw [hw1]; first | (simp; done) | go_simp), (by rw [hw1]; first | (simp; done) | go_simp), (by rw [hw1]; first | (simp; done) | go_simp), (by rw [hw1]; first | (simp; done) | go_simp)⟩
 have BR : Box4 w1 (w.heap.size + 1) (.int .i64 0) (.slice none 0 0) (.slice none 0 0) (.slice none 0 0) := ⟨(by rw [hw1]; first | (simp; done) | go_simp), (by rw [hw1]; first | (simp; done) | go_simp), (by rw [hw1]; first | (simp; done) | go_simp), (by rw [hw1]; first | (simp; done) | go_simp)⟩
 have BC : Box4 w1 (w.heap.size + 1 + 1) (.int .i64 s.ins) (.slice none 0 0) (.slice none 0 0) (.slice none 0 0) := ⟨(by rw [hw1]; first | (simp; done) | go_simp), (by rw [hw1]; first | (simp; done) | go_simp), (by rw [hw1]; first | (simp; done) | go_simp), (by rw [hw1]; first | (simp; done) | go_simp)⟩
 have FR : Free4 w1 (w.heap.size + 1) := ⟨(by rw [hw1]; first | (simp; done) | go_simp), (by rw [hw1]; first | (simp; done) | go_simp), (by rw [hw1]; first | (simp; done) | go_simp), (by rw [hw1]; first | (simp; done) | go_simp)⟩
 have FC : Free4 w1 (w.heap.size + 1 + 1) := ⟨(by rw [hw1]; first | (simp; done) | go_simp), (by rw [hw1]; first | (simp; done) | go_simp), (by rw [hw1]; first | (simp; done) | go_simp), (by rw [hw1]; first | (simp; done) | go_simp)⟩
 clear hw1
 go_loopw [4] (fun i wr => ∃ (k : Nat) (x : Option Addr) (kx : Nat), k ≤ s.outs.length ∧ i = .int .i64 k ∧ Below w.heap.size w wr ∧ (w.heap.size + 1 + 1 + 1) ≤ wr.heap.size ∧ Box4 wr w.heap.size (.int .i64 s.ins) (.slice ao s.outs.length ko) (.slice ah s.hints.length kh) (.slice ac s.cons.length kc) ∧ Box4 wr (w.heap.size + 1) (.int .i64 0) (.slice none 0 0) (.slice none 0 0) (.slice none 0 0) ∧ Box4 wr (w.heap.size + 1 + 1) (.int .i64 s.ins) (.slice x k kx) ((.slice none 0 0)) ((.slice none 0 0)) ∧ Free4 wr (w.heap.size + 1) ∧ Free4 wr (w.heap.size + 1 + 1) ∧ GrI FShape.lin 53 (w.heap.size + 1 + 1 + 1) wr.heap.size wr (.slice x k kx) (s.outs.take k) ∧ k ≤ kx ∧ kx ≤ 9223372036854775807) (fun i _ => s.outs.length - (intOf i).toNat)
 case atStart => exact ⟨0, none, 0, Nat.zero_le _, rfl, bs, by omega, BA, BR, BC, FR, FC, GrI.nil, Nat.le_refl _, by omega⟩
 case round =>
  clear bs BA BR BC FR FC zs
  obtain ⟨k, x0, kx0, hk, rfl, be, zz, BA, BR, BC, FR, FC, G, lx0, bx0⟩ := hrel
  by_cases hlt : k < s.outs.length
  ·obtain ⟨b, off, va, rfl, p1, p2, c0, ta⟩ := (tO.keep be hw).at hlt
   obtain ⟨ya, ka, rfl, la', ba'⟩ := ta.shape
   have EL := E1.out _ (List.getElem_mem hlt)
   have HT : Hid (s.outs.take (k + 1) = s.outs.take k ++ [s.outs[k]]) := Lib.hid (take_step (List.getElem?_eq_getElem hlt))
   have HL : Hid ((s.outs.take k).length = k) := Lib.hid (by simp; omega)
   have bl : b < wr.heap.size := World.block_lt_of_cell? _ _ c0
   have qA := BA.2.1
   have l0 : w.heap.size < wr.heap.size := BA.lt
   go_wp2_with fail
   refine name_wp fun w1 hw1 => ?_
   have e1 : Below wr.heap.size wr w1 := by rw [hw1]; (repeat (with_reducible first | exact bR _ _ | assumption | refine bD ?_ | refine bN ?_ _ | refine bA ?_ _ | refine bS ?_ _))
   have z1 : wr.heap.size + 0 ≤ w1.heap.size := by rw [hw1]; simp
   have h0 := cell_keep e1 c0
   have hA := cell_keep e1 qA
   have dd : Below w1.heap.size w1 w1.drew := (Below.refl _ _).drew
   have zd : w1.heap.size ≤ w1.drew.heap.size := Nat.le_refl _
   have ze : w1.drew.heap.size ≤ w1.heap.size := Nat.le_refl _
   have bd : Below wr.heap.size wr w1.drew := e1.trans (dd.mono (by omega))
   clear hw1
   have g0 := cell_keep dd h0
   have g1 := cell_keep dd hA
   have lb1 : b < w1.drew.heap.size := by omega
   have gC : w1.drew.cell? ⟨w.heap.size + 1 + 1, 1, none⟩ = some (.slice x0 k kx0) := (BC.keep bd (by omega)).2.1
   have G1 := G.keep bd (Nat.le_refl _)
   have BC1 := BC.keep bd (by omega)
   have FC1 := FC.keep bd (by omega)
   have t1a := ta.keep bd (by omega)
   have K0 : Hid (∀ w', Only (w.heap.size + 1 + 1 + 1) wr.heap.size w1.drew w' → w'.cell? ⟨b, off + k, none⟩ = some (.slice ya s.outs[k].length ka)) := Lib.hid (fun w' h => (h.cell (by omega) (by omega) _).trans g0)
   have K1 : Hid (∀ w', Only (w.heap.size + 1 + 1 + 1) wr.heap.size w1.drew w' → w'.cell? ⟨w.heap.size, 1, none⟩ = some (.slice (some ⟨b, off, none⟩) s.outs.length ko)) := Lib.hid (fun w' h => (h.cell (by omega) (by omega) _).trans g1)
   have K2 : Hid (∀ w', Only (w.heap.size + 1 + 1 + 1) wr.heap.size w1.drew w' → w'.cell? ⟨w.heap.size + 1 + 1, 1, none⟩ = some (.slice x0 k kx0)) := Lib.hid (fun w' h => (h.cell (by omega) (by omega) _).trans gC)
   clear BC FC h0 hA c0  qA
   have o0 : Only (w.heap.size + 1 + 1 + 1) wr.heap.size w1.drew w1.drew := Only.refl _ _ _
   have s0 : Below wr.heap.size w1.drew w1.drew := Below.refl _ _
   refine wp_region_tailL (S := fun w' => Only (w.heap.size + 1 + 1 + 1) wr.heap.size w1.drew w' ∧ w'.cell? ⟨b, off + k, none⟩ = some (.slice ya s.outs[k].length ka) ∧ w'.cell? ⟨w.heap.size, 1, none⟩ = some (.slice (some ⟨b, off, none⟩) s.outs.length ko) ∧ w'.cell? ⟨w.heap.size + 1 + 1, 1, none⟩ = some (.slice x0 k kx0)) (by kernel_rfl) (by simp) (by kernel_rfl) ⟨o0, K0.out _ o0, K1.out _ o0, K2.out _ o0⟩ (fun hHeld => ?_)
   simp only [List.dropLast_cons_cons, List.dropLast_singleton, List.getLast_cons_cons, List.getLast_singleton]
   refine wpAnyH_take (i := 0) rfl (by kernel_rfl) (by kernel_rfl) (by kernel_rfl) (fun _ _ _ h => h) (v := ?_) (Or.inl ⟨by rfl, ?_⟩) (by assumption) ?_
   case refine_2 => (intro w hSw; (try dsimp only at hSw); go_simp; (try with_reducible rfl))
   try simp only [Act.put, List.setIfInBounds_toArray, List.set_cons_zero, List.set_cons_succ, List.getElem_toArray, List.getElem_cons_succ, List.getElem_cons_zero]
   refine wpAnyH_take (i := 1) rfl (by kernel_rfl) (by kernel_rfl) (by kernel_rfl) (fun _ _ _ h => h) (v := ?_) (Or.inl ⟨by rfl, ?_⟩) (by assumption) ?_
   case refine_2 => (intro w hSw; (try dsimp only at hSw); go_simp; (try with_reducible rfl))
   try simp only [Act.put, List.setIfInBounds_toArray, List.set_cons_zero, List.set_cons_succ, List.getElem_toArray, List.getElem_cons_succ, List.getElem_cons_zero]
   refine wpAnyH_take (i := 2) rfl (by kernel_rfl) (by kernel_rfl) (by kernel_rfl) (fun _ _ _ h => h) (v := ?_) (Or.inl ⟨by rfl, ?_⟩) (by assumption) ?_
   case refine_2 => (intro w hSw; (try dsimp only at hSw); go_simp; (try with_reducible rfl))
   try simp only [Act.put, List.setIfInBounds_toArray, List.set_cons_zero, List.set_cons_succ, List.getElem_toArray, List.getElem_cons_succ, List.getElem_cons_zero]
   refine wpAnyH_take (i := 3) rfl (by kernel_rfl) (by kernel_rfl) (by kernel_rfl) (fun _ _ _ h => h) (v := ?_) (Or.inl ⟨by rfl, ?_⟩) (by assumption) ?_
   case refine_2 => (intro w hSw; (try dsimp only at hSw); go_simp; (try with_reducible rfl))
   try simp only [Act.put, List.setIfInBounds_toArray, List.set_cons_zero, List.set_cons_succ, List.getElem_toArray, List.getElem_cons_succ, List.getElem_cons_zero]
   refine wpAnyH_take (i := 4) rfl (by kernel_rfl) (by kernel_rfl) (by kernel_rfl) (fun _ _ _ h => h) (v := ?_) (Or.inl ⟨by rfl, ?_⟩) (by assumption) ?_
   case refine_2 => (intro w hSw; (try dsimp only at hSw); go_simp; (try with_reducible rfl))
   try simp only [Act.put, List.setIfInBounds_toArray, List.set_cons_zero, List.set_cons_succ, List.getElem_toArray, List.getElem_cons_succ, List.getElem_cons_zero]
   refine wpAnyH_take (i := 5) rfl (by kernel_rfl) (by kernel_rfl) (by kernel_rfl) (fun _ _ _ h => h) (v := ?_) (Or.inl ⟨by rfl, ?_⟩) (by assumption) ?_
   case refine_2 => (intro w hSw; (try dsimp only at hSw); go_simp; (try with_reducible rfl))
   try simp only [Act.put, List.setIfInBounds_toArray, List.set_cons_zero, List.set_cons_succ, List.getElem_toArray, List.getElem_cons_succ, List.getElem_cons_zero]
   refine wpAnyH_take (i := 6) rfl (by kernel_rfl) (by kernel_rfl) (by kernel_rfl) (fun _ _ _ h => h) (v := ?_) (Or.inl ⟨by rfl, ?_⟩) (by assumption) ?_
   case refine_2 => (intro w hSw; (try dsimp only at hSw); go_simp; (try with_reducible rfl))
   try simp only [Act.put, List.setIfInBounds_toArray, List.set_cons_zero, List.set_cons_succ, List.getElem_toArray, List.getElem_cons_succ, List.getElem_cons_zero]
   refine wpAnyH_ready (rs := [7]) (by kernel_rfl) (by simp) ?_
   refine (AllReadyH.cons rfl (fun K hK => ?_) AllReadyH.nil)
   ·skip
    go_simp
    go_at_call 132
    refine (l2own_any o l h (.slice ya s.outs[k].length ka) s.outs[k] w1.drew (t1a.keep s0 (by omega)) (by omega) (by omega)).mono ?_
    rintro e va ⟨ua, rfl, fa, Ta⟩
    obtain ⟨xa, ca, rfl, La, Ma⟩ := Ta.shape
    have Za := fa.size
    have oa := only_call o0 fa
    have sa := Below.trans s0 (fa.mono (by omega))
    refine hK.out _ _ ⟨oa, K0.out _ oa, K1.out _ oa, K2.out _ oa⟩ (fun hHeld => ?_)
    clear hK K
    try simp only [Act.put, List.setIfInBounds_toArray, List.set_cons_zero, List.set_cons_succ, List.getElem_toArray, List.getElem_cons_succ, List.getElem_cons_zero]
    refine wpAnyH_ready (rs := [8]) (by kernel_rfl) (by simp) ?_
    refine AllReadyH.cons rfl (fun K hK => ?_) AllReadyH.nil
    go_simp
    have oA := oa.alloc (.cells #[.slice xa s.outs[k].length ca] 53)
    have sA : Below wr.heap.size w1.drew (va.alloc (.cells #[.slice xa s.outs[k].length ca] 53)) := balloc (by omega) sa _
    refine hK.out _ _ ⟨oA, K0.out _ oA, K1.out _ oA, K2.out _ oA⟩ (fun hHeld => ?_)
    clear hK K
    try simp only [Act.put, List.setIfInBounds_toArray, List.set_cons_zero, List.set_cons_succ, List.getElem_toArray, List.getElem_cons_succ, List.getElem_cons_zero]
    have Ra := Ta.keep (B := va.heap.size) (balloc (w := va) (by omega) (Below.refl _ _) (.cells #[.slice xa s.outs[k].length ca] 53)) (Nat.le_refl _)
    have GA := G1.keep sA (Nat.le_refl _)
    refine wpAnyH_ready (rs := [9]) (by kernel_rfl) (by simp) ?_
    refine AllReadyH.cons rfl (fun K hK => ?_) AllReadyH.nil
    refine step_append_I (va.alloc (.cells #[.slice xa s.outs[k].length ca] 53)) rfl _ _ 31 rfl 53 i1 (.agg #[.slice none 0 0]) 24 Tryz.underlying31 hi1 hz1 hs1 hb1 rfl (by decide) (.slice x0 k kx0) (s.outs.take k) k HL.out rfl GA [.slice xa s.outs[k].length ca] s.outs[k] w1.drew.heap.size va.heap.size ⟨_, rfl, _, _, fun q i j => ⟨by omega, by omega⟩, Ra⟩ va.heap.size (0, 0) rfl (heap_alloc_new va _) (by omega) (by omega) (by simp) (by simp; omega) (by omega) (by omega) ?_
    rintro g cap y1 ⟨Gn, on1, lc1, mc1⟩
    have oy := oA.trans on1
    refine hK.out _ _ ⟨oy, K0.out _ oy, K1.out _ oy, K2.out _ oy⟩ (fun hHeld => ?_)
    clear hK K
    try simp only [Act.put, List.setIfInBounds_toArray, List.set_cons_zero, List.set_cons_succ, List.getElem_toArray, List.getElem_cons_succ, List.getElem_cons_zero]
    refine wpAnyH_take (i := 10) rfl (by kernel_rfl) (by kernel_rfl) (by kernel_rfl) (fun _ _ _ h => h) (v := ?_) (Or.inl ⟨by rfl, ?_⟩) (by assumption) ?_
    case refine_2 => (intro w hSw; (try dsimp only at hSw); go_simp; (try with_reducible rfl))
    try simp only [Act.put, List.setIfInBounds_toArray, List.set_cons_zero, List.set_cons_succ, List.getElem_toArray, List.getElem_cons_succ, List.getElem_cons_zero]
    refine wpAnyH_done (by kernel_rfl) ?_ _
    show Oper.wp _ _ _ _ _ _
    have BCy := (BC1.only oy (by omega))
    have FCy := (FC1.only oy (by omega) (by omega))
    have cy := BCy.2.1
    have fy := FCy.2.1
    have zy := oy.size
    have on' : Only (w.heap.size + 1 + 1 + 1) wr.heap.size wr y1 := (Only.of_below bd (Nat.le_refl _)).trans oy
    have BA' := BA.only on' (by omega)
    have BR' := BR.only on' (by omega)
    have FR' := FR.only on' (by omega) (by omega)
    have be' : Below w.heap.size w y1 := be.trans (on'.below (by omega) (by omega))
    clear oa sa fa Ta Ra oA sA GA on1 oy hHeld
    go_simp
    go_wp2_with fail
    exact ⟨⟨k + 1, some ⟨g, 0, none⟩, cap, by omega, by go_num, by (repeat (with_reducible first | exact bR _ _ | assumption | refine bD ?_ | refine bN ?_ _ | refine bA ?_ _ | refine bS ?_ _)), by simp; omega, BA'.same (Below.heap_setCell _ _ _ _ (show w.heap.size ≠ w.heap.size + 1 + 1 by omega)), BR'.same (Below.heap_setCell _ _ _ _ (show w.heap.size + 1 ≠ w.heap.size + 1 + 1 by omega)), BCy.set1 _, FR'.set _ _, FCy.set _ _, by rw [HT.out]; exact (Gn.agree (same_set2 (by omega))).wide (by simp), lc1, mc1⟩, by simp [intOf]; omega⟩
  ·obtain rfl : k = s.outs.length := by omega
   rw [List.take_length] at G
   clear hlt hk
   obtain ⟨m1, hm1⟩ : ∃ m, m = wr.heap.size := ⟨_, rfl⟩
   have bs := be
   clear be
   have O0 := G
   clear G
   have e0 : 0 = 0 := rfl
   have zm1 : m1 ≤ wr.heap.size := by omega
   have zn1 : (w.heap.size + 1 + 1 + 1) ≤ m1 := by omega
   have zs := zm1
   rw [← hm1] at O0
   clear hm1
   have qB := BA.2.2.1
   have qA := BA.2.1
   have l0 : w.heap.size < wr.heap.size := BA.lt
   go_wp2_with fail
   clear qB qA
   go_loopw [5] (fun i wr => ∃ (k : Nat) (x : Option Addr) (kx : Nat), k ≤ s.hints.length ∧ i = .int .i64 k ∧ Below w.heap.size w wr ∧ m1 ≤ wr.heap.size ∧ Box4 wr w.heap.size (.int .i64 s.ins) (.slice ao s.outs.length ko) (.slice ah s.hints.length kh) (.slice ac s.cons.length kc) ∧ Box4 wr (w.heap.size + 1) (.int .i64 0) (.slice none 0 0) (.slice none 0 0) (.slice none 0 0) ∧ Box4 wr (w.heap.size + 1 + 1) (.int .i64 s.ins) (.slice x0 s.outs.length kx0) (.slice x k kx) ((.slice none 0 0)) ∧ Free4 wr (w.heap.size + 1) ∧ Free4 wr (w.heap.size + 1 + 1) ∧ GrI FShape.hint 92 m1 wr.heap.size wr (.slice x k kx) (s.hints.take k) ∧ k ≤ kx ∧ kx ≤ 9223372036854775807 ∧ GrI FShape.lin 53 (w.heap.size + 1 + 1 + 1) m1 wr (.slice x0 s.outs.length kx0) s.outs) (fun i _ => s.hints.length - (intOf i).toNat)
   case atStart => exact ⟨0, none, 0, Nat.zero_le _, rfl, bs, by omega, BA, BR, BC, FR, FC, GrI.nil, Nat.le_refl _, by omega, O0⟩
   case round =>
    clear bs BA BR BC FR FC zs O0
    obtain ⟨k, x1, kx1, hk, rfl, be, zz, BA, BR, BC, FR, FC, G, lx1, bx1, O0⟩ := hrel
    by_cases hlt : k < s.hints.length
    ·obtain ⟨b, off, va, vb, rfl, p1, p2, d0, c0, c1, d3, f0, f3, ta, tb⟩ := (tH.keep be hw).at hlt
     obtain ⟨ya, ka, rfl, la', ba'⟩ := ta.shape
     obtain ⟨yb, kb, rfl, lb', bb'⟩ := tb.shape
     have EL := E2.out _ (List.getElem_mem hlt)
     have HT : Hid (s.hints.take (k + 1) = s.hints.take k ++ [s.hints[k]]) := Lib.hid (take_step (List.getElem?_eq_getElem hlt))
     have HL : Hid ((s.hints.take k).length = k) := Lib.hid (by simp; omega)
     have bl : b < wr.heap.size := World.block_lt_of_cell? _ _ c0
     have f0' := Lib.hid f0
     have f3' := Lib.hid f3
     clear f0 f3
     have qA := BA.2.2.1
     have l0 : w.heap.size < wr.heap.size := BA.lt
     go_wp2_with fail
     refine name_wp fun w1 hw1 => ?_
     have e1 : Below wr.heap.size wr w1 := by rw [hw1]; (repeat (with_reducible first | exact bR _ _ | assumption | refine bD ?_ | refine bN ?_ _ | refine bA ?_ _ | refine bS ?_ _))
     have z1 : wr.heap.size + 1 ≤ w1.heap.size := by rw [hw1]; simp
     have h0 : w1.cell? ⟨wr.heap.size, 0, none⟩ = some (.int .i64 s.hints[k].kind) := by rw [hw1]; first | (simp; done) | go_simp
     have h1 : w1.cell? ⟨wr.heap.size, 1, none⟩ = some (.slice ya s.hints[k].a.length ka) := by rw [hw1]; first | (simp; done) | go_simp
     have h2 : w1.cell? ⟨wr.heap.size, 2, none⟩ = some (.slice yb s.hints[k].b.length kb) := by rw [hw1]; first | (simp; done) | go_simp
     have h3 : w1.cell? ⟨wr.heap.size, 3, none⟩ = some (.int .i64 s.hints[k].k) := by rw [hw1]; first | (simp; done) | go_simp
     have dd : Below w1.heap.size w1 w1.drew := (Below.refl _ _).drew
     have zd : w1.heap.size ≤ w1.drew.heap.size := Nat.le_refl _
     have ze : w1.drew.heap.size ≤ w1.heap.size := Nat.le_refl _
     have bd : Below wr.heap.size wr w1.drew := e1.trans (dd.mono (by omega))
     clear hw1
     have g0 := cell_keep dd h0
     have g1 := cell_keep dd h1
     have g2 := cell_keep dd h2
     have g3 := cell_keep dd h3
     have gC : w1.drew.cell? ⟨w.heap.size + 1 + 1, 2, none⟩ = some (.slice x1 k kx1) := (BC.keep bd (by omega)).2.2.1
     have G1 := G.keep bd (Nat.le_refl _)
     have BC1 := BC.keep bd (by omega)
     have FC1 := FC.keep bd (by omega)
     have t1a := ta.keep bd (by omega)
     have t1b := tb.keep bd (by omega)
     have K0 : Hid (∀ w', Only m1 wr.heap.size w1.drew w' → w'.cell? ⟨wr.heap.size, 0, none⟩ = some (.int .i64 s.hints[k].kind)) := Lib.hid (fun w' h => (h.cell (by omega) (by omega) _).trans g0)
     have K1 : Hid (∀ w', Only m1 wr.heap.size w1.drew w' → w'.cell? ⟨wr.heap.size, 1, none⟩ = some (.slice ya s.hints[k].a.length ka)) := Lib.hid (fun w' h => (h.cell (by omega) (by omega) _).trans g1)
     have K2 : Hid (∀ w', Only m1 wr.heap.size w1.drew w' → w'.cell? ⟨wr.heap.size, 2, none⟩ = some (.slice yb s.hints[k].b.length kb)) := Lib.hid (fun w' h => (h.cell (by omega) (by omega) _).trans g2)
     have K3 : Hid (∀ w', Only m1 wr.heap.size w1.drew w' → w'.cell? ⟨wr.heap.size, 3, none⟩ = some (.int .i64 s.hints[k].k)) := Lib.hid (fun w' h => (h.cell (by omega) (by omega) _).trans g3)
     have K4 : Hid (∀ w', Only m1 wr.heap.size w1.drew w' → w'.cell? ⟨w.heap.size + 1 + 1, 2, none⟩ = some (.slice x1 k kx1)) := Lib.hid (fun w' h => (h.cell (by omega) (by omega) _).trans gC)
     clear BC FC h0 h1 h2 h3 c0 d0 c1 d3 qA
     have o0 : Only m1 wr.heap.size w1.drew w1.drew := Only.refl _ _ _
     have s0 : Below wr.heap.size w1.drew w1.drew := Below.refl _ _
     refine wp_region_tailL (S := fun w' => Only m1 wr.heap.size w1.drew w' ∧ w'.cell? ⟨wr.heap.size, 0, none⟩ = some (.int .i64 s.hints[k].kind) ∧ w'.cell? ⟨wr.heap.size, 1, none⟩ = some (.slice ya s.hints[k].a.length ka) ∧ w'.cell? ⟨wr.heap.size, 2, none⟩ = some (.slice yb s.hints[k].b.length kb) ∧ w'.cell? ⟨wr.heap.size, 3, none⟩ = some (.int .i64 s.hints[k].k) ∧ w'.cell? ⟨w.heap.size + 1 + 1, 2, none⟩ = some (.slice x1 k kx1)) (by kernel_rfl) (by simp) (by kernel_rfl) ⟨o0, K0.out _ o0, K1.out _ o0, K2.out _ o0, K3.out _ o0, K4.out _ o0⟩ (fun hHeld => ?_)
     simp only [List.dropLast_cons_cons, List.dropLast_singleton, List.getLast_cons_cons, List.getLast_singleton]
     refine wpAnyH_take (i := 0) rfl (by kernel_rfl) (by kernel_rfl) (by kernel_rfl) (fun _ _ _ h => h) (v := ?_) (Or.inl ⟨by rfl, ?_⟩) (by assumption) ?_
     case refine_2 => (intro w hSw; (try dsimp only at hSw); go_simp; (try with_reducible rfl))
     try simp only [Act.put, List.setIfInBounds_toArray, List.set_cons_zero, List.set_cons_succ, List.getElem_toArray, List.getElem_cons_succ, List.getElem_cons_zero]
     refine wpAnyH_take (i := 1) rfl (by kernel_rfl) (by kernel_rfl) (by kernel_rfl) (fun _ _ _ h => h) (v := ?_) (Or.inl ⟨by rfl, ?_⟩) (by assumption) ?_
     case refine_2 => (intro w hSw; (try dsimp only at hSw); go_simp; (try with_reducible rfl))
     try simp only [Act.put, List.setIfInBounds_toArray, List.set_cons_zero, List.set_cons_succ, List.getElem_toArray, List.getElem_cons_succ, List.getElem_cons_zero]
     refine wpAnyH_take (i := 2) rfl (by kernel_rfl) (by kernel_rfl) (by kernel_rfl) (fun _ _ _ h => h) (v := ?_) (Or.inl ⟨by rfl, ?_⟩) (by assumption) ?_
     case refine_2 => (intro w hSw; (try dsimp only at hSw); go_simp; (try with_reducible rfl))
     try simp only [Act.put, List.setIfInBounds_toArray, List.set_cons_zero, List.set_cons_succ, List.getElem_toArray, List.getElem_cons_succ, List.getElem_cons_zero]
     refine wpAnyH_take (i := 3) rfl (by kernel_rfl) (by kernel_rfl) (by kernel_rfl) (fun _ _ _ h => h) (v := ?_) (Or.inl ⟨by rfl, ?_⟩) (by assumption) ?_
     case refine_2 => (intro w hSw; (try dsimp only at hSw); go_simp; (try with_reducible rfl))
     try simp only [Act.put, List.setIfInBounds_toArray, List.set_cons_zero, List.set_cons_succ, List.getElem_toArray, List.getElem_cons_succ, List.getElem_cons_zero]
     refine wpAnyH_take (i := 4) rfl (by kernel_rfl) (by kernel_rfl) (by kernel_rfl) (fun _ _ _ h => h) (v := ?_) (Or.inl ⟨by rfl, ?_⟩) (by assumption) ?_
     case refine_2 => (intro w hSw; (try dsimp only at hSw); go_simp; (try with_reducible rfl))
     try simp only [Act.put, List.setIfInBounds_toArray, List.set_cons_zero, List.set_cons_succ, List.getElem_toArray, List.getElem_cons_succ, List.getElem_cons_zero]
     refine wpAnyH_take (i := 5) rfl (by kernel_rfl) (by kernel_rfl) (by kernel_rfl) (fun _ _ _ h => h) (v := ?_) (Or.inl ⟨by rfl, ?_⟩) (by assumption) ?_
     case refine_2 => (intro w hSw; (try dsimp only at hSw); go_simp; (try with_reducible rfl))
     try simp only [Act.put, List.setIfInBounds_toArray, List.set_cons_zero, List.set_cons_succ, List.getElem_toArray, List.getElem_cons_succ, List.getElem_cons_zero]
     refine wpAnyH_take (i := 7) rfl (by kernel_rfl) (by kernel_rfl) (by kernel_rfl) (fun _ _ _ h => h) (v := ?_) (Or.inl ⟨by rfl, ?_⟩) (by assumption) ?_
     case refine_2 => (intro w hSw; (try dsimp only at hSw); go_simp; (try with_reducible rfl))
     try simp only [Act.put, List.setIfInBounds_toArray, List.set_cons_zero, List.set_cons_succ, List.getElem_toArray, List.getElem_cons_succ, List.getElem_cons_zero]
     refine wpAnyH_take (i := 8) rfl (by kernel_rfl) (by kernel_rfl) (by kernel_rfl) (fun _ _ _ h => h) (v := ?_) (Or.inl ⟨by rfl, ?_⟩) (by assumption) ?_
     case refine_2 => (intro w hSw; (try dsimp only at hSw); go_simp; (try with_reducible rfl))
     try simp only [Act.put, List.setIfInBounds_toArray, List.set_cons_zero, List.set_cons_succ, List.getElem_toArray, List.getElem_cons_succ, List.getElem_cons_zero]
     refine wpAnyH_take (i := 10) rfl (by kernel_rfl) (by kernel_rfl) (by kernel_rfl) (fun _ _ _ h => h) (v := ?_) (Or.inl ⟨by rfl, ?_⟩) (by assumption) ?_
     case refine_2 => (intro w hSw; (try dsimp only at hSw); go_simp; (try with_reducible rfl))
     try simp only [Act.put, List.setIfInBounds_toArray, List.set_cons_zero, List.set_cons_succ, List.getElem_toArray, List.getElem_cons_succ, List.getElem_cons_zero]
     refine wpAnyH_take (i := 11) rfl (by kernel_rfl) (by kernel_rfl) (by kernel_rfl) (fun _ _ _ h => h) (v := ?_) (Or.inl ⟨by rfl, ?_⟩) (by assumption) ?_
     case refine_2 => (intro w hSw; (try dsimp only at hSw); go_simp; (try with_reducible rfl))
     try simp only [Act.put, List.setIfInBounds_toArray, List.set_cons_zero, List.set_cons_succ, List.getElem_toArray, List.getElem_cons_succ, List.getElem_cons_zero]
     refine wpAnyH_ready (rs := [6]) (by kernel_rfl) (by simp) ?_
     refine (AllReadyH.cons rfl (fun K hK => ?_) AllReadyH.nil)
     ·skip
      go_simp
      go_at_call 132
      refine (l2own_any o l h (.slice ya s.hints[k].a.length ka) s.hints[k].a w1.drew (t1a.keep s0 (by omega)) (by omega) (by omega)).mono ?_
      rintro e va ⟨ua, rfl, fa, Ta⟩
      obtain ⟨xa, ca, rfl, La, Ma⟩ := Ta.shape
      have Za := fa.size
      have oa := only_call o0 fa
      have sa := Below.trans s0 (fa.mono (by omega))
      refine hK.out _ _ ⟨oa, K0.out _ oa, K1.out _ oa, K2.out _ oa, K3.out _ oa, K4.out _ oa⟩ (fun hHeld => ?_)
      clear hK K
      try simp only [Act.put, List.setIfInBounds_toArray, List.set_cons_zero, List.set_cons_succ, List.getElem_toArray, List.getElem_cons_succ, List.getElem_cons_zero]
      refine wpAnyH_ready (rs := [9]) (by kernel_rfl) (by simp) ?_
      refine (AllReadyH.cons rfl (fun K hK => ?_) AllReadyH.nil)
      ·skip
       go_simp
       go_at_call 132
       refine (l2own_any o l h (.slice yb s.hints[k].b.length kb) s.hints[k].b va (t1b.keep sa (by omega)) (by omega) (by omega)).mono ?_
       rintro e vb ⟨ub, rfl, fb, Tb⟩
       obtain ⟨xb, cb, rfl, Lb, Mb⟩ := Tb.shape
       have Zb := fb.size
       have ob := only_call oa fb
       have sb := Below.trans sa (fb.mono (by omega))
       refine hK.out _ _ ⟨ob, K0.out _ ob, K1.out _ ob, K2.out _ ob, K3.out _ ob, K4.out _ ob⟩ (fun hHeld => ?_)
       clear hK K
       try simp only [Act.put, List.setIfInBounds_toArray, List.set_cons_zero, List.set_cons_succ, List.getElem_toArray, List.getElem_cons_succ, List.getElem_cons_zero]
       refine wpAnyH_take (i := 12) rfl (by kernel_rfl) (by kernel_rfl) (by kernel_rfl) (fun _ _ _ h => h) (v := ?_) (Or.inl ⟨by rfl, ?_⟩) (by assumption) ?_
       case refine_2 => (intro w hSw; (try dsimp only at hSw); go_simp; (try with_reducible rfl))
       try simp only [Act.put, List.setIfInBounds_toArray, List.set_cons_zero, List.set_cons_succ, List.getElem_toArray, List.getElem_cons_succ, List.getElem_cons_zero]
       refine wpAnyH_ready (rs := [13]) (by kernel_rfl) (by simp) ?_
       refine AllReadyH.cons rfl (fun K hK => ?_) AllReadyH.nil
       go_simp
       have oA := ob.alloc (.cells #[.int .i64 s.hints[k].kind, .slice xa s.hints[k].a.length ca, .slice xb s.hints[k].b.length cb, .int .i64 s.hints[k].k] 92)
       have sA : Below wr.heap.size w1.drew (vb.alloc (.cells #[.int .i64 s.hints[k].kind, .slice xa s.hints[k].a.length ca, .slice xb s.hints[k].b.length cb, .int .i64 s.hints[k].k] 92)) := balloc (by omega) sb _
       refine hK.out _ _ ⟨oA, K0.out _ oA, K1.out _ oA, K2.out _ oA, K3.out _ oA, K4.out _ oA⟩ (fun hHeld => ?_)
       clear hK K
       try simp only [Act.put, List.setIfInBounds_toArray, List.set_cons_zero, List.set_cons_succ, List.getElem_toArray, List.getElem_cons_succ, List.getElem_cons_zero]
       have Ra := Ta.keep (B := va.heap.size) (balloc (w := vb) (by omega) ((Below.refl _ _).trans (fb.mono (by omega))) (.cells #[.int .i64 s.hints[k].kind, .slice xa s.hints[k].a.length ca, .slice xb s.hints[k].b.length cb, .int .i64 s.hints[k].k] 92)) (Nat.le_refl _)
       have Rb := Tb.keep (B := vb.heap.size) (balloc (w := vb) (by omega) (Below.refl _ _) (.cells #[.int .i64 s.hints[k].kind, .slice xa s.hints[k].a.length ca, .slice xb s.hints[k].b.length cb, .int .i64 s.hints[k].k] 92)) (Nat.le_refl _)
       have GA := G1.keep sA (Nat.le_refl _)
       refine wpAnyH_ready (rs := [14]) (by kernel_rfl) (by simp) ?_
       refine AllReadyH.cons rfl (fun K hK => ?_) AllReadyH.nil
       refine step_append_I (vb.alloc (.cells #[.int .i64 s.hints[k].kind, .slice xa s.hints[k].a.length ca, .slice xb s.hints[k].b.length cb, .int .i64 s.hints[k].k] 92)) rfl _ _ 32 rfl 92 i2 (.agg #[.int .i64 0, .slice none 0 0, .slice none 0 0, .int .i64 0]) 64 Tryz.underlying32 hi2 hz2 hs2 hb2 rfl (by decide) (.slice x1 k kx1) (s.hints.take k) k HL.out rfl GA [.int .i64 s.hints[k].kind, .slice xa s.hints[k].a.length ca, .slice xb s.hints[k].b.length cb, .int .i64 s.hints[k].k] s.hints[k] w1.drew.heap.size vb.heap.size ⟨_, _, _, _, _, _, rfl, f0'.out, f3'.out, fun q i j => ⟨by omega, by omega⟩, fun q i j => ⟨by omega, by omega⟩, fun _ => by omega, Ra, Rb⟩ vb.heap.size (0, 0) rfl (heap_alloc_new vb _) (by omega) (by omega) (by simp) (by simp; omega) (by omega) (by omega) ?_
       rintro g cap y1 ⟨Gn, on1, lc1, mc1⟩
       have oy := oA.trans on1
       refine hK.out _ _ ⟨oy, K0.out _ oy, K1.out _ oy, K2.out _ oy, K3.out _ oy, K4.out _ oy⟩ (fun hHeld => ?_)
       clear hK K
       try simp only [Act.put, List.setIfInBounds_toArray, List.set_cons_zero, List.set_cons_succ, List.getElem_toArray, List.getElem_cons_succ, List.getElem_cons_zero]
       refine wpAnyH_take (i := 15) rfl (by kernel_rfl) (by kernel_rfl) (by kernel_rfl) (fun _ _ _ h => h) (v := ?_) (Or.inl ⟨by rfl, ?_⟩) (by assumption) ?_
       case refine_2 => (intro w hSw; (try dsimp only at hSw); go_simp; (try with_reducible rfl))
       try simp only [Act.put, List.setIfInBounds_toArray, List.set_cons_zero, List.set_cons_succ, List.getElem_toArray, List.getElem_cons_succ, List.getElem_cons_zero]
       refine wpAnyH_done (by kernel_rfl) ?_ _
       show Oper.wp _ _ _ _ _ _
       have BCy := (BC1.only oy (by omega))
       have FCy := (FC1.only oy (by omega) (by omega))
       have cy := BCy.2.2.1
       have fy := FCy.2.2.1
       have zy := oy.size
       have on' : Only m1 wr.heap.size wr y1 := (Only.of_below bd (Nat.le_refl _)).trans oy
       have BA' := BA.only on' (by omega)
       have BR' := BR.only on' (by omega)
       have FR' := FR.only on' (by omega) (by omega)
       have be' : Below w.heap.size w y1 := be.trans (on'.below (by omega) (by omega))
       have O0' := O0.agree (Same.of_only on' (by omega) (by omega))
       clear oa sa fa Ta Ra ob sb fb Tb Rb oA sA GA on1 oy hHeld
       go_simp
       go_wp2_with fail
       exact ⟨⟨k + 1, some ⟨g, 0, none⟩, cap, by omega, by go_num, by (repeat (with_reducible first | exact bR _ _ | assumption | refine bD ?_ | refine bN ?_ _ | refine bA ?_ _ | refine bS ?_ _)), by simp; omega, BA'.same (Below.heap_setCell _ _ _ _ (show w.heap.size ≠ w.heap.size + 1 + 1 by omega)), BR'.same (Below.heap_setCell _ _ _ _ (show w.heap.size + 1 ≠ w.heap.size + 1 + 1 by omega)), BCy.set2 _, FR'.set _ _, FCy.set _ _, by rw [HT.out]; exact (Gn.agree (same_set2 (by omega))).wide (by simp), lc1, mc1, O0'.agree (same_set2 (by omega))⟩, by simp [intOf]; omega⟩
    ·obtain rfl : k = s.hints.length := by omega
     rw [List.take_length] at G
     clear hlt hk
     obtain ⟨m2, hm2⟩ : ∃ m, m = wr.heap.size := ⟨_, rfl⟩
     have bs := be
     clear be
     have O1 := G
     clear G
     have e1 : 0 = 0 := rfl
     have zm2 : m2 ≤ wr.heap.size := by omega
     have zn2 : m1 ≤ m2 := by omega
     have zs := zm2
     rw [← hm2] at O1
     clear hm2
     have qB := BA.2.2.2
     have qA := BA.2.2.1
     have l0 : w.heap.size < wr.heap.size := BA.lt
     go_wp2_with fail
     clear qB qA
     go_loopw [7] (fun i wr => ∃ (k : Nat) (x : Option Addr) (kx : Nat), k ≤ s.cons.length ∧ i = .int .i64 k ∧ Below w.heap.size w wr ∧ m2 ≤ wr.heap.size ∧ Box4 wr w.heap.size (.int .i64 s.ins) (.slice ao s.outs.length ko) (.slice ah s.hints.length kh) (.slice ac s.cons.length kc) ∧ Box4 wr (w.heap.size + 1) (.int .i64 0) (.slice none 0 0) (.slice none 0 0) (.slice none 0 0) ∧ Box4 wr (w.heap.size + 1 + 1) (.int .i64 s.ins) (.slice x0 s.outs.length kx0) (.slice x1 s.hints.length kx1) (.slice x k kx) ∧ Free4 wr (w.heap.size + 1) ∧ Free4 wr (w.heap.size + 1 + 1) ∧ GrI FShape.con 56 m2 wr.heap.size wr (.slice x k kx) (s.cons.take k) ∧ k ≤ kx ∧ kx ≤ 9223372036854775807 ∧ GrI FShape.lin 53 (w.heap.size + 1 + 1 + 1) m1 wr (.slice x0 s.outs.length kx0) s.outs ∧ GrI FShape.hint 92 m1 m2 wr (.slice x1 s.hints.length kx1) s.hints) (fun i _ => s.cons.length - (intOf i).toNat)
     case atStart => exact ⟨0, none, 0, Nat.zero_le _, rfl, bs, by omega, BA, BR, BC, FR, FC, GrI.nil, Nat.le_refl _, by omega, O0, O1⟩
     case round =>
      clear bs BA BR BC FR FC zs O0 O1
      obtain ⟨k, x2, kx2, hk, rfl, be, zz, BA, BR, BC, FR, FC, G, lx2, bx2, O0, O1⟩ := hrel
      by_cases hlt : k < s.cons.length
      ·obtain ⟨b, off, va, vb, vc, rfl, p1, p2, c0, c1, c2, ta, tb, tc⟩ := (tC.keep be hw).at hlt
       obtain ⟨ya, ka, rfl, la', ba'⟩ := ta.shape
       obtain ⟨yb, kb, rfl, lb', bb'⟩ := tb.shape
       obtain ⟨yc, kc, rfl, lc', bc'⟩ := tc.shape
       have EL := E3.out _ (List.getElem_mem hlt)
       have HT : Hid (s.cons.take (k + 1) = s.cons.take k ++ [s.cons[k]]) := Lib.hid (take_step (List.getElem?_eq_getElem hlt))
       have HL : Hid ((s.cons.take k).length = k) := Lib.hid (by simp; omega)
       have bl : b < wr.heap.size := World.block_lt_of_cell? _ _ c0
       have qA := BA.2.2.2
       have l0 : w.heap.size < wr.heap.size := BA.lt
       go_wp2_with fail
       refine name_wp fun w1 hw1 => ?_
       have e1 : Below wr.heap.size wr w1 := by rw [hw1]; (repeat (with_reducible first | exact bR _ _ | assumption | refine bD ?_ | refine bN ?_ _ | refine bA ?_ _ | refine bS ?_ _))
       have z1 : wr.heap.size + 1 ≤ w1.heap.size := by rw [hw1]; simp
       have h0 : w1.cell? ⟨wr.heap.size, 0, none⟩ = some (.slice ya s.cons[k].a.length ka) := by rw [hw1]; first | (simp; done) | go_simp
       have h1 : w1.cell? ⟨wr.heap.size, 1, none⟩ = some (.slice yb s.cons[k].b.length kb) := by rw [hw1]; first | (simp; done) | go_simp
       have h2 : w1.cell? ⟨wr.heap.size, 2, none⟩ = some (.slice yc s.cons[k].c.length kc) := by rw [hw1]; first | (simp; done) | go_simp
       have dd : Below w1.heap.size w1 w1.drew := (Below.refl _ _).drew
       have zd : w1.heap.size ≤ w1.drew.heap.size := Nat.le_refl _
       have ze : w1.drew.heap.size ≤ w1.heap.size := Nat.le_refl _
       have bd : Below wr.heap.size wr w1.drew := e1.trans (dd.mono (by omega))
       clear hw1
       have g0 := cell_keep dd h0
       have g1 := cell_keep dd h1
       have g2 := cell_keep dd h2
       have gC : w1.drew.cell? ⟨w.heap.size + 1 + 1, 3, none⟩ = some (.slice x2 k kx2) := (BC.keep bd (by omega)).2.2.2
       have G1 := G.keep bd (Nat.le_refl _)
       have BC1 := BC.keep bd (by omega)
       have FC1 := FC.keep bd (by omega)
       have t1a := ta.keep bd (by omega)
       have t1b := tb.keep bd (by omega)
       have t1c := tc.keep bd (by omega)
       have K0 : Hid (∀ w', Only m2 wr.heap.size w1.drew w' → w'.cell? ⟨wr.heap.size, 0, none⟩ = some (.slice ya s.cons[k].a.length ka)) := Lib.hid (fun w' h => (h.cell (by omega) (by omega) _).trans g0)
       have K1 : Hid (∀ w', Only m2 wr.heap.size w1.drew w' → w'.cell? ⟨wr.heap.size, 1, none⟩ = some (.slice yb s.cons[k].b.length kb)) := Lib.hid (fun w' h => (h.cell (by omega) (by omega) _).trans g1)
       have K2 : Hid (∀ w', Only m2 wr.heap.size w1.drew w' → w'.cell? ⟨wr.heap.size, 2, none⟩ = some (.slice yc s.cons[k].c.length kc)) := Lib.hid (fun w' h => (h.cell (by omega) (by omega) _).trans g2)
       have K3 : Hid (∀ w', Only m2 wr.heap.size w1.drew w' → w'.cell? ⟨w.heap.size + 1 + 1, 3, none⟩ = some (.slice x2 k kx2)) := Lib.hid (fun w' h => (h.cell (by omega) (by omega) _).trans gC)
       clear BC FC h0 h1 h2 c0 c1 c2 qA
       have o0 : Only m2 wr.heap.size w1.drew w1.drew := Only.refl _ _ _
       have s0 : Below wr.heap.size w1.drew w1.drew := Below.refl _ _
       refine wp_region_tailL (S := fun w' => Only m2 wr.heap.size w1.drew w' ∧ w'.cell? ⟨wr.heap.size, 0, none⟩ = some (.slice ya s.cons[k].a.length ka) ∧ w'.cell? ⟨wr.heap.size, 1, none⟩ = some (.slice yb s.cons[k].b.length kb) ∧ w'.cell? ⟨wr.heap.size, 2, none⟩ = some (.slice yc s.cons[k].c.length kc) ∧ w'.cell? ⟨w.heap.size + 1 + 1, 3, none⟩ = some (.slice x2 k kx2)) (by kernel_rfl) (by simp) (by kernel_rfl) ⟨o0, K0.out _ o0, K1.out _ o0, K2.out _ o0, K3.out _ o0⟩ (fun hHeld => ?_)
       simp only [List.dropLast_cons_cons, List.dropLast_singleton, List.getLast_cons_cons, List.getLast_singleton]
       refine wpAnyH_take (i := 0) rfl (by kernel_rfl) (by kernel_rfl) (by kernel_rfl) (fun _ _ _ h => h) (v := ?_) (Or.inl ⟨by rfl, ?_⟩) (by assumption) ?_
       case refine_2 => (intro w hSw; (try dsimp only at hSw); go_simp; (try with_reducible rfl))
       try simp only [Act.put, List.setIfInBounds_toArray, List.set_cons_zero, List.set_cons_succ, List.getElem_toArray, List.getElem_cons_succ, List.getElem_cons_zero]
       refine wpAnyH_take (i := 1) rfl (by kernel_rfl) (by kernel_rfl) (by kernel_rfl) (fun _ _ _ h => h) (v := ?_) (Or.inl ⟨by rfl, ?_⟩) (by assumption) ?_
       case refine_2 => (intro w hSw; (try dsimp only at hSw); go_simp; (try with_reducible rfl))
       try simp only [Act.put, List.setIfInBounds_toArray, List.set_cons_zero, List.set_cons_succ, List.getElem_toArray, List.getElem_cons_succ, List.getElem_cons_zero]
       refine wpAnyH_take (i := 2) rfl (by kernel_rfl) (by kernel_rfl) (by kernel_rfl) (fun _ _ _ h => h) (v := ?_) (Or.inl ⟨by rfl, ?_⟩) (by assumption) ?_
       case refine_2 => (intro w hSw; (try dsimp only at hSw); go_simp; (try with_reducible rfl))
       try simp only [Act.put, List.setIfInBounds_toArray, List.set_cons_zero, List.set_cons_succ, List.getElem_toArray, List.getElem_cons_succ, List.getElem_cons_zero]
       refine wpAnyH_take (i := 3) rfl (by kernel_rfl) (by kernel_rfl) (by kernel_rfl) (fun _ _ _ h => h) (v := ?_) (Or.inl ⟨by rfl, ?_⟩) (by assumption) ?_
       case refine_2 => (intro w hSw; (try dsimp only at hSw); go_simp; (try with_reducible rfl))
       try simp only [Act.put, List.setIfInBounds_toArray, List.set_cons_zero, List.set_cons_succ, List.getElem_toArray, List.getElem_cons_succ, List.getElem_cons_zero]
       refine wpAnyH_take (i := 5) rfl (by kernel_rfl) (by kernel_rfl) (by kernel_rfl) (fun _ _ _ h => h) (v := ?_) (Or.inl ⟨by rfl, ?_⟩) (by assumption) ?_
       case refine_2 => (intro w hSw; (try dsimp only at hSw); go_simp; (try with_reducible rfl))
       try simp only [Act.put, List.setIfInBounds_toArray, List.set_cons_zero, List.set_cons_succ, List.getElem_toArray, List.getElem_cons_succ, List.getElem_cons_zero]
       refine wpAnyH_take (i := 6) rfl (by kernel_rfl) (by kernel_rfl) (by kernel_rfl) (fun _ _ _ h => h) (v := ?_) (Or.inl ⟨by rfl, ?_⟩) (by assumption) ?_
       case refine_2 => (intro w hSw; (try dsimp only at hSw); go_simp; (try with_reducible rfl))
       try simp only [Act.put, List.setIfInBounds_toArray, List.set_cons_zero, List.set_cons_succ, List.getElem_toArray, List.getElem_cons_succ, List.getElem_cons_zero]
       refine wpAnyH_take (i := 8) rfl (by kernel_rfl) (by kernel_rfl) (by kernel_rfl) (fun _ _ _ h => h) (v := ?_) (Or.inl ⟨by rfl, ?_⟩) (by assumption) ?_
       case refine_2 => (intro w hSw; (try dsimp only at hSw); go_simp; (try with_reducible rfl))
       try simp only [Act.put, List.setIfInBounds_toArray, List.set_cons_zero, List.set_cons_succ, List.getElem_toArray, List.getElem_cons_succ, List.getElem_cons_zero]
       refine wpAnyH_take (i := 9) rfl (by kernel_rfl) (by kernel_rfl) (by kernel_rfl) (fun _ _ _ h => h) (v := ?_) (Or.inl ⟨by rfl, ?_⟩) (by assumption) ?_
       case refine_2 => (intro w hSw; (try dsimp only at hSw); go_simp; (try with_reducible rfl))
       try simp only [Act.put, List.setIfInBounds_toArray, List.set_cons_zero, List.set_cons_succ, List.getElem_toArray, List.getElem_cons_succ, List.getElem_cons_zero]
       refine wpAnyH_ready (rs := [4]) (by kernel_rfl) (by simp) ?_
       refine (AllReadyH.cons rfl (fun K hK => ?_) AllReadyH.nil)
       ·skip
        go_simp
        go_at_call 132
        refine (l2own_any o l h (.slice ya s.cons[k].a.length ka) s.cons[k].a w1.drew (t1a.keep s0 (by omega)) (by omega) (by omega)).mono ?_
        rintro e va ⟨ua, rfl, fa, Ta⟩
        obtain ⟨xa, ca, rfl, La, Ma⟩ := Ta.shape
        have Za := fa.size
        have oa := only_call o0 fa
        have sa := Below.trans s0 (fa.mono (by omega))
        refine hK.out _ _ ⟨oa, K0.out _ oa, K1.out _ oa, K2.out _ oa, K3.out _ oa⟩ (fun hHeld => ?_)
        clear hK K
        try simp only [Act.put, List.setIfInBounds_toArray, List.set_cons_zero, List.set_cons_succ, List.getElem_toArray, List.getElem_cons_succ, List.getElem_cons_zero]
        refine wpAnyH_ready (rs := [7]) (by kernel_rfl) (by simp) ?_
        refine (AllReadyH.cons rfl (fun K hK => ?_) AllReadyH.nil)
        ·skip
         go_simp
         go_at_call 132
         refine (l2own_any o l h (.slice yb s.cons[k].b.length kb) s.cons[k].b va (t1b.keep sa (by omega)) (by omega) (by omega)).mono ?_
         rintro e vb ⟨ub, rfl, fb, Tb⟩
         obtain ⟨xb, cb, rfl, Lb, Mb⟩ := Tb.shape
         have Zb := fb.size
         have ob := only_call oa fb
         have sb := Below.trans sa (fb.mono (by omega))
         refine hK.out _ _ ⟨ob, K0.out _ ob, K1.out _ ob, K2.out _ ob, K3.out _ ob⟩ (fun hHeld => ?_)
         clear hK K
         try simp only [Act.put, List.setIfInBounds_toArray, List.set_cons_zero, List.set_cons_succ, List.getElem_toArray, List.getElem_cons_succ, List.getElem_cons_zero]
         refine wpAnyH_ready (rs := [10]) (by kernel_rfl) (by simp) ?_
         refine (AllReadyH.cons rfl (fun K hK => ?_) AllReadyH.nil)
         ·skip
          go_simp
          go_at_call 132
          refine (l2own_any o l h (.slice yc s.cons[k].c.length kc) s.cons[k].c vb (t1c.keep sb (by omega)) (by omega) (by omega)).mono ?_
          rintro e vc ⟨uc, rfl, fc, Tc⟩
          obtain ⟨xc, cc, rfl, Lc, Mc⟩ := Tc.shape
          have Zc := fc.size
          have oc := only_call ob fc
          have sc := Below.trans sb (fc.mono (by omega))
          refine hK.out _ _ ⟨oc, K0.out _ oc, K1.out _ oc, K2.out _ oc, K3.out _ oc⟩ (fun hHeld => ?_)
          clear hK K
          try simp only [Act.put, List.setIfInBounds_toArray, List.set_cons_zero, List.set_cons_succ, List.getElem_toArray, List.getElem_cons_succ, List.getElem_cons_zero]
          refine wpAnyH_take (i := 11) rfl (by kernel_rfl) (by kernel_rfl) (by kernel_rfl) (fun _ _ _ h => h) (v := ?_) (Or.inl ⟨by rfl, ?_⟩) (by assumption) ?_
          case refine_2 => (intro w hSw; (try dsimp only at hSw); go_simp; (try with_reducible rfl))
          try simp only [Act.put, List.setIfInBounds_toArray, List.set_cons_zero, List.set_cons_succ, List.getElem_toArray, List.getElem_cons_succ, List.getElem_cons_zero]
          refine wpAnyH_ready (rs := [12]) (by kernel_rfl) (by simp) ?_
          refine AllReadyH.cons rfl (fun K hK => ?_) AllReadyH.nil
          go_simp
          have oA := oc.alloc (.cells #[.slice xa s.cons[k].a.length ca, .slice xb s.cons[k].b.length cb, .slice xc s.cons[k].c.length cc] 56)
          have sA : Below wr.heap.size w1.drew (vc.alloc (.cells #[.slice xa s.cons[k].a.length ca, .slice xb s.cons[k].b.length cb, .slice xc s.cons[k].c.length cc] 56)) := balloc (by omega) sc _
          refine hK.out _ _ ⟨oA, K0.out _ oA, K1.out _ oA, K2.out _ oA, K3.out _ oA⟩ (fun hHeld => ?_)
          clear hK K
          try simp only [Act.put, List.setIfInBounds_toArray, List.set_cons_zero, List.set_cons_succ, List.getElem_toArray, List.getElem_cons_succ, List.getElem_cons_zero]
          have Ra := Ta.keep (B := va.heap.size) (balloc (w := vc) (by omega) (((Below.refl _ _).trans (fb.mono (by omega))).trans (fc.mono (by omega))) (.cells #[.slice xa s.cons[k].a.length ca, .slice xb s.cons[k].b.length cb, .slice xc s.cons[k].c.length cc] 56)) (Nat.le_refl _)
          have Rb := Tb.keep (B := vb.heap.size) (balloc (w := vc) (by omega) ((Below.refl _ _).trans (fc.mono (by omega))) (.cells #[.slice xa s.cons[k].a.length ca, .slice xb s.cons[k].b.length cb, .slice xc s.cons[k].c.length cc] 56)) (Nat.le_refl _)
          have Rc := Tc.keep (B := vc.heap.size) (balloc (w := vc) (by omega) (Below.refl _ _) (.cells #[.slice xa s.cons[k].a.length ca, .slice xb s.cons[k].b.length cb, .slice xc s.cons[k].c.length cc] 56)) (Nat.le_refl _)
          have GA := G1.keep sA (Nat.le_refl _)
          refine wpAnyH_ready (rs := [13]) (by kernel_rfl) (by simp) ?_
          refine AllReadyH.cons rfl (fun K hK => ?_) AllReadyH.nil
          refine step_append_I (vc.alloc (.cells #[.slice xa s.cons[k].a.length ca, .slice xb s.cons[k].b.length cb, .slice xc s.cons[k].c.length cc] 56)) rfl _ _ 33 rfl 56 i3 (.agg #[.slice none 0 0, .slice none 0 0, .slice none 0 0]) 72 Tryz.underlying33 hi3 hz3 hs3 hb3 rfl (by decide) (.slice x2 k kx2) (s.cons.take k) k HL.out rfl GA [.slice xa s.cons[k].a.length ca, .slice xb s.cons[k].b.length cb, .slice xc s.cons[k].c.length cc] s.cons[k] w1.drew.heap.size vc.heap.size ⟨_, _, _, _, _, _, _, _, _, rfl, fun q i j => ⟨by omega, by omega⟩, fun q i j => ⟨by omega, by omega⟩, fun q i j => ⟨by omega, by omega⟩, fun _ => ⟨by omega, by omega, by omega⟩, Ra, Rb, Rc⟩ vc.heap.size (0, 0) rfl (heap_alloc_new vc _) (by omega) (by omega) (by simp) (by simp; omega) (by omega) (by omega) ?_
          rintro g cap y1 ⟨Gn, on1, lc1, mc1⟩
          have oy := oA.trans on1
          refine hK.out _ _ ⟨oy, K0.out _ oy, K1.out _ oy, K2.out _ oy, K3.out _ oy⟩ (fun hHeld => ?_)
          clear hK K
          try simp only [Act.put, List.setIfInBounds_toArray, List.set_cons_zero, List.set_cons_succ, List.getElem_toArray, List.getElem_cons_succ, List.getElem_cons_zero]
          refine wpAnyH_take (i := 14) rfl (by kernel_rfl) (by kernel_rfl) (by kernel_rfl) (fun _ _ _ h => h) (v := ?_) (Or.inl ⟨by rfl, ?_⟩) (by assumption) ?_
          case refine_2 => (intro w hSw; (try dsimp only at hSw); go_simp; (try with_reducible rfl))
          try simp only [Act.put, List.setIfInBounds_toArray, List.set_cons_zero, List.set_cons_succ, List.getElem_toArray, List.getElem_cons_succ, List.getElem_cons_zero]
          refine wpAnyH_done (by kernel_rfl) ?_ _
          show Oper.wp _ _ _ _ _ _
          have BCy := (BC1.only oy (by omega))
          have FCy := (FC1.only oy (by omega) (by omega))
          have cy := BCy.2.2.2
          have fy := FCy.2.2.2
          have zy := oy.size
          have on' : Only m2 wr.heap.size wr y1 := (Only.of_below bd (Nat.le_refl _)).trans oy
          have BA' := BA.only on' (by omega)
          have BR' := BR.only on' (by omega)
          have FR' := FR.only on' (by omega) (by omega)
          have be' : Below w.heap.size w y1 := be.trans (on'.below (by omega) (by omega))
          have O0' := O0.agree (Same.of_only on' (by omega) (by omega))
          have O1' := O1.agree (Same.of_only on' (by omega) (by omega))
          clear oa sa fa Ta Ra ob sb fb Tb Rb oc sc fc Tc Rc oA sA GA on1 oy hHeld
          go_simp
          go_wp2_with fail
          exact ⟨⟨k + 1, some ⟨g, 0, none⟩, cap, by omega, by go_num, by (repeat (with_reducible first | exact bR _ _ | assumption | refine bD ?_ | refine bN ?_ _ | refine bA ?_ _ | refine bS ?_ _)), by simp; omega, BA'.same (Below.heap_setCell _ _ _ _ (show w.heap.size ≠ w.heap.size + 1 + 1 by omega)), BR'.same (Below.heap_setCell _ _ _ _ (show w.heap.size + 1 ≠ w.heap.size + 1 + 1 by omega)), BCy.set3 _, FR'.set _ _, FCy.set _ _, by rw [HT.out]; exact (Gn.agree (same_set2 (by omega))).wide (by simp), lc1, mc1, O0'.agree (same_set2 (by omega)), O1'.agree (same_set2 (by omega))⟩, by simp [intOf]; omega⟩
      ·obtain rfl : k = s.cons.length := by omega
       rw [List.take_length] at G
       clear hlt hk
       obtain ⟨m3, hm3⟩ : ∃ m, m = wr.heap.size := ⟨_, rfl⟩
       clear hm3
       have qA := BA.2.2.2
       have c0 := BC.1
       have r0 := BR.1
       have f0 := FR.1
       have c1 := BC.2.1
       have r1 := BR.2.1
       have f1 := FR.2.1
       have c2 := BC.2.2.1
       have r2 := BR.2.2.1
       have f2 := FR.2.2.1
       have c3 := BC.2.2.2
       have r3 := BR.2.2.2
       have f3 := FR.2.2.2
       have l0 : w.heap.size < wr.heap.size := BA.lt
       have l1 : w.heap.size + 1 < wr.heap.size := BR.lt
       have l2 : w.heap.size + 1 + 1 < wr.heap.size := BC.lt
       go_wp2_with fail
       exact bodyPost_ret (v := .agg #[.int .i64 s.ins, .slice x0 s.outs.length kx0, .slice x1 s.hints.length kx1, .slice x2 s.cons.length kx2]) (by simp [results, Tryz.results117, go_sem, r0, r1, r2, r3]) rfl ⟨_, _, _, _, rfl, by (repeat (with_reducible first | exact bR _ _ | assumption | refine bD ?_ | refine bN ?_ _ | refine bA ?_ _ | refine bS ?_ _)), rfl, fi, m1, m2, by omega, by omega, by simp; omega, O0.agree (same_sets _ _ _ _ _ (.inl (by omega))), O1.agree (same_sets _ _ _ _ _ (.inl (by omega))), (G.agree (same_sets _ _ _ _ _ (.inl (by omega)))).wide (by simp)⟩
end Go.Proofs.YthipgpbapdambaaGreat.L
