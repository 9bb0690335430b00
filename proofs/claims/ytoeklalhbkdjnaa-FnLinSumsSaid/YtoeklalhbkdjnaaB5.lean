/- B5: Clone CloneS CloneO -/
import Derived.Test.YtoeklalhbkdjnaaB3
import Derived.Test.YtoeklalhbkdjnaaB4
import Derived.Test.YtoeklalhbkdjnaaB2
import Derived.Test.YtoeklalhbkdjnaaB2
import Derived.Test.YtoeklalhbkdjnaaB1
import Derived.Deep.DeepCutAuto
set_option linter.unusedVariables false
set_option linter.unusedSimpArgs false
/- Copies of combinations: the program's and the model's. -/
namespace Go.Proofs.Ytoeklalhbkdjnaa.L
open Go.RowKit Go.Proofs.Ytoeklalhbkdjnaa.S
set_option linter.unusedVariables false
set_option linter.unusedSimpArgs false

theorem Terms.cellsOf {o : Bool} {l h : Nat} {w : World} {a : Option Addr} {n cap : Nat} {ts : List T} (t : Terms o l h w (.slice a n cap) ts) :
    (a = none → ts.length = 0) ∧ ∀ ad, a = some ad → ∀ j u, (cells ts)[j]? = some u → w.cell? (ad.add j) = some u := by
  obtain ⟨a', cap', e, h1, h2, h3, h4⟩ := t
  simp only [Value.slice.injEq] at e
  obtain ⟨rfl, rfl, rfl⟩ := e
  rcases h4 with h4 | ⟨b, off, rfl, hl, hlt, hf, hc⟩
  · subst h4
    exact ⟨fun _ => rfl, fun ad _ j u hj => by simp [cells] at hj⟩
  · refine ⟨fun h => by simp at h, fun ad had j u hj => ?_⟩
    simp only [Option.some.injEq] at had
    subst had
    have hjl : j < ts.length * 2 := by rw [← cells_length]; exact (List.getElem?_eq_some_iff.1 hj).1
    obtain ⟨c0, c1⟩ := hc (j / 2) ts[j / 2] (List.getElem?_eq_getElem (by omega))
    obtain ⟨d0, d1⟩ := cells_at ts (j / 2) ts[j / 2] (List.getElem?_eq_getElem (by omega))
    rw [Go.WideShapes.add_plain]
    rcases (show j = j / 2 * 2 ∨ j = j / 2 * 2 + 1 from by omega) with q | q
    · rw [q] at hj ⊢
      rw [d0] at hj; simp only [Option.some.injEq] at hj; rw [← hj]
      exact c0
    · rw [q] at hj ⊢
      rw [d1] at hj; simp only [Option.some.injEq] at hj; rw [← hj, ← Nat.add_assoc]
      exact c1
theorem cells_one (ts : List T) : ∀ u ∈ cells ts, u.oneCell' = true := by
  intro u hu
  unfold cells at hu
  rw [List.mem_flatMap] at hu
  obtain ⟨t, _, ht⟩ := hu
  simp only [List.mem_cons, List.not_mem_nil, or_false] at ht
  rcases ht with rfl | rfl <;> rfl
theorem own_slice {w : World} {base : Nat} {e : TypeId} {size n : Nat} {v : Value} {xs : List Value} (h : w.ownsRow base e size v n xs) : ∃ a cap, v = .slice a n cap := by
  rcases h.2 with ⟨rfl, rfl⟩ | ⟨g, cap, cur, rfl, _⟩
  · exact ⟨_, _, rfl⟩
  · exact ⟨_, _, rfl⟩

theorem below_grown {W w5 : World} {row : Option Nat} {B : Nat} (g : W.grownBy w5 row) (hB : B ≤ W.heap.size) (hr : ∀ k, row = some k → B ≤ k) : Below B W w5 := ⟨g.os, g.tape, g.output, g.size, fun k hk => g.block k (Nat.lt_of_lt_of_le hk hB) (fun e => by have := hr k e.symm; omega)⟩
theorem name_list {P : Program} {ops : Array Oper} {rest : List Oper} {a : Act} {Q : Exit → Act → World → Prop} {w : World} (h : ∀ W, W = w → wpList P ops Q rest a W) : wpList P ops Q rest a w := h w rfl

set_option maxRecDepth 100000 in
set_option maxHeartbeats 1600000 in
theorem l2own_any (o l h v) (ts : List T) (w : World) (t : Terms o l h w v ts) (hw : h ≤ w.heap.size) (hn : ts.length ≤ 16777216) :
    Calls Try.prog 48 #[.agg #[v]] w fun e w' => ∃ u, e = .returned (.agg #[u]) ∧ Below w.heap.size w w' ∧ Terms true w.heap.size w'.heap.size w' u ts := by
  obtain ⟨a, ka, rfl, la, ba⟩ := t.shape
  have F := Lib.hid t.fits
  obtain ⟨i0, hi0, hz0, hz1, hz2⟩ := info_parts termInfo
  go_enter Try.func48, Try.ntmps48
  go_wp2_with (at_builtin; refine name_list ?_)
  intro W hW
  have b1 : Below w.heap.size w W := by rw [hW]; (repeat (with_reducible first | exact bR _ _ | assumption | refine bD ?_ | refine bN ?_ _ | refine bA ?_ _ | refine bS ?_ _))
  have z1 : w.heap.size + 2 ≤ W.heap.size := by rw [hW]; simp
  have cR : W.cell? ⟨w.heap.size + 1, 0, none⟩ = some (.slice none 0 0) := by rw [hW]; go_simp
  have fR : W.frozen? ⟨w.heap.size + 1, 0, none⟩ = false := by rw [hW]; go_simp
  have C := Lib.hid (t.keep b1 hw).cellsOf
  have row0 : W.ownsRow (w.heap.size + 2) 48 2 (.slice (some ⟨w.heap.size + 1 + 1, 0, none⟩) 0 0) 0 [] := by
    have q := World.ownsRow_made (base := w.heap.size + 2) (size := 2) (e := 48) ((w.alloc (.cells #[.slice a ts.length ka] 25)).alloc (.cells #[.slice none 0 0] 25)) #[] 0 (by simp) (Nat.zero_le _) (by simp)
    rw [hW]
    simpa only [World.size_alloc] using q
  clear hW
  go_wp2_with (at_builtin; refine wpList_append_spread _ rfl _ _ 23 rfl (w.heap.size + 2) 48 i0 (.agg #[.int .i64 0, .int .i64 0]) 2 16 Try.underlying23 hi0 hz0 hz1 hz2 rfl (by decide) (.slice (some ⟨w.heap.size + 1 + 1, 0, none⟩) 0 0) 0 [] rfl row0 _ _ _ (cells ts) rfl (cells_length ts) C.out.1 C.out.2 (cells_one ts) (by unfold maxLen; omega) (by omega) z1 ?_; rintro v' w5 ⟨hown, hgrow, -⟩; obtain ⟨a', cap', rfl⟩ := own_slice hown; have e5 : Below (w.heap.size + 2) W w5 := below_grown (row := some (w.heap.size + 1 + 1)) hgrow z1 (fun k e => by simp at e; omega); have cR5 := (e5.cell (p := ⟨w.heap.size + 1, 0, none⟩) (Nat.lt_succ_self _)).trans cR; have fR5 := (e5.frozen (p := ⟨w.heap.size + 1, 0, none⟩) (Nat.lt_succ_self _)).trans fR; have z5 := e5.size; have b5 := b1.trans (e5.mono (by omega)); have fin := Terms.own (by simpa using hown) F.out)
  clear hown hgrow row0 C cR fR
  go_wp2_with fail
  exact bodyPost_ret (v := .agg #[.slice a' ts.length cap']) (by simp [results, Try.results48, go_sem, cR5]) rfl ⟨_, rfl, by (repeat (with_reducible first | exact bR _ _ | assumption | refine bD ?_ | refine bN ?_ _ | refine bA ?_ _ | refine bS ?_ _)), fin.stored (by omega) (by omega)⟩
end Go.Proofs.Ytoeklalhbkdjnaa.L

/- Copies of systems: the program's and the model's (written by tools/gen/clones.py). -/
namespace Go.Proofs.Ytoeklalhbkdjnaa.L
open Go.RowKit Go.Proofs.Ytoeklalhbkdjnaa.S
set_option linter.unusedVariables false
set_option linter.unusedSimpArgs false

/-- A slice of one's own whose row and elements lie in blocks from lo on and below hi. -/
def GrI {α : Type} (E : FShape α) (e : TypeId) (lo hi : Nat) (w : World) (v : Value) (xs : List α) : Prop :=
  ∃ R F : Nat → Prop, GrowF E e true lo R F w v xs ∧ (∀ k, R k → lo ≤ k ∧ k < hi) ∧ (∀ k, F k → lo ≤ k ∧ k < hi) ∧ (∀ k, R k → ¬ F k)
namespace GrI
variable {α : Type} {E : FShape α} {e : TypeId} {lo hi : Nat} {w w' : World} {v : Value} {xs : List α}
theorem nil : GrI E e lo hi w (.slice none 0 0) [] := ⟨fun _ => False, fun _ => False, GrowF.nil, fun _ h => h.elim, fun _ h => h.elim, fun _ h => h.elim⟩
theorem agree (g : GrI E e lo hi w v xs) (s : Same lo hi w w') : GrI E e lo hi w' v xs := by
  obtain ⟨R, F, g, h1, h2, h3⟩ := g
  exact ⟨R, F, g.agree (fun k hk => by rcases hk with q | q; exact s k (h1 k q).1 (h1 k q).2; exact s k (h2 k q).1 (h2 k q).2), h1, h2, h3⟩
theorem keep {B : Nat} (g : GrI E e lo hi w v xs) (b : Below B w w') (h : hi ≤ B) : GrI E e lo hi w' v xs := g.agree (Same.of_below b h)
theorem wide {hi' : Nat} (g : GrI E e lo hi w v xs) (h : hi ≤ hi') : GrI E e lo hi' w v xs := by
  obtain ⟨R, F, g, h1, h2, h3⟩ := g
  exact ⟨R, F, g, fun k q => by have := h1 k q; omega, fun k q => by have := h2 k q; omega, h3⟩
theorem shape (g : GrI E e lo hi w v xs) : ∃ a cap, v = .slice a xs.length cap ∧ xs.length ≤ cap ∧ cap ≤ 9223372036854775807 := by
  obtain ⟨R, F, g, h1, h2, h3⟩ := g; exact g.shape
end GrI

section
variable {P : Program} (w : World) {α : Type} {E : FShape α} {lo hi : Nat}
theorem step_append_I {ops : Array Oper} {op : Oper} {a : Act} {K : Act → World → Prop} {Q : Exit → Act → World → Prop} {Z : Prop} (hgd : op.guard = none) (s x : Operand) (t : TypeId)
    (ho : op.op = .call { callee := .builtin .append, args := #[s, x], argTypes := #[t, t] })
    (e : TypeId) (i : TypeInfo) (z : Value) (bytes : Nat) (ht : P.underlying t = some (.slice e)) (hi0 : P.info? e = some i) (hz : i.zero = some z)
    (hsize : i.size = E.wd) (hby : i.bytes = bytes) (hzs : z.cells.size = E.wd) (hsz : 0 < E.wd)
    (v : Value) (xs : List α) (n : Nat) (hn : xs.length = n) (hs : a.eval s = v) (g : GrI E e lo hi w v xs) (cs : List Value) (y : α) (l' h' : Nat) (hrep : E.rep true (fun k => l' ≤ k ∧ k < h') w cs y) (B : Nat) (fr : Nat × Nat) (hx : a.eval x = .slice (some ⟨B, 0, none⟩) 1 1) (hB : w.heap[B]? = some (.cells cs.toArray e fr))
    (q1 : lo ≤ hi) (q2 : hi ≤ l') (q3 : h' ≤ w.heap.size) (q4 : hi ≤ w.heap.size)
    (h63 : n + 1 ≤ 1000000000) (hbytes : (n + 1) * bytes ≤ 140737488355328)
    (h : ∀ g' cap' w', GrI E e lo w'.heap.size w' (.slice (some ⟨g', 0, none⟩) (n + 1) cap') (xs ++ [y]) ∧ Only lo hi w w' ∧ n + 1 ≤ cap' ∧ cap' ≤ 9223372036854775807 → K (a.put op.dst (.slice (some ⟨g', 0, none⟩) (n + 1) cap')) w') :
    if Region.wanted op (yielded ops a.tmps) = true then Oper.wp P op a w K Q else Z := by
  subst hn
  obtain ⟨R, F, g, h1, h2, h3⟩ := g
  refine step_append_growF w hgd s x t ho e i z bytes ht hi0 hz hsize hby hzs hsz v xs hs g cs y _ hrep B fr hx hB h3 (fun k hk => ?_) (fun k hk => ⟨by omega, fun q => by have := h1 k q; omega⟩) (fun _ k hk hG => by have := h2 k hk; omega) h63 hbytes (by omega) (fun g' cap' w' hh => h g' cap' w' ?_)
  · rcases hk with q | q
    · have := h1 k q; omega
    · have := h2 k q; omega
  · have hsz' := hh.1.2.size
    refine ⟨⟨_, _, hh.1.1, fun k hk => ?_, fun k hk => ?_, fun k hk hF => ?_⟩, hh.1.2.only h1, hh.2, ?_⟩
    · rcases hk with q | q
      · have := h1 k q; omega
      · have := q.1; have := q.2; omega
    · rcases hk with q | q
      · have := h2 k q; omega
      · omega
    · rcases hk with q | q
      · rcases hF with r | r
        · exact h3 k q r
        · have := h1 k q; omega
      · have := q.1
        rcases hF with r | r
        · have := h2 k r; omega
        · omega
    · obtain ⟨_, _, e1, _, e2⟩ := hh.1.1.shape
      simp only [Value.slice.injEq] at e1
      rw [e1.2.2]; exact e2
end

/-- Four cells of a block. -/
def Box4 (w : World) (b : Nat) (v0 v1 v2 v3 : Value) : Prop := w.cell? ⟨b, 0, none⟩ = some v0 ∧ w.cell? ⟨b, 1, none⟩ = some v1 ∧ w.cell? ⟨b, 2, none⟩ = some v2 ∧ w.cell? ⟨b, 3, none⟩ = some v3
def Free4 (w : World) (b : Nat) : Prop := w.frozen? ⟨b, 0, none⟩ = false ∧ w.frozen? ⟨b, 1, none⟩ = false ∧ w.frozen? ⟨b, 2, none⟩ = false ∧ w.frozen? ⟨b, 3, none⟩ = false
theorem Box4.same {w w' : World} {b : Nat} {v0 v1 v2 v3 : Value} (h : Box4 w b v0 v1 v2 v3) (s : w'.heap[b]? = w.heap[b]?) : Box4 w' b v0 v1 v2 v3 := by
  unfold Box4
  rw [World.cell?_of_block (a := ⟨b, 0, none⟩) s, World.cell?_of_block (a := ⟨b, 1, none⟩) s, World.cell?_of_block (a := ⟨b, 2, none⟩) s, World.cell?_of_block (a := ⟨b, 3, none⟩) s]
  exact h
theorem Free4.same {w w' : World} {b : Nat} (h : Free4 w b) (s : w'.heap[b]? = w.heap[b]?) : Free4 w' b := by
  unfold Free4
  rw [World.frozen?_of_block (a := ⟨b, 0, none⟩) s, World.frozen?_of_block (a := ⟨b, 1, none⟩) s, World.frozen?_of_block (a := ⟨b, 2, none⟩) s, World.frozen?_of_block (a := ⟨b, 3, none⟩) s]
  exact h
theorem Box4.lt {w : World} {b : Nat} {v0 v1 v2 v3 : Value} (h : Box4 w b v0 v1 v2 v3) : b < w.heap.size := World.block_lt_of_cell? _ _ h.1
theorem Box4.keep {w w' : World} {B b : Nat} {v0 v1 v2 v3 : Value} (h : Box4 w b v0 v1 v2 v3) (s : Below B w w') (hb : b < B) : Box4 w' b v0 v1 v2 v3 := h.same (s.block b hb)
theorem Free4.keep {w w' : World} {B b : Nat} (h : Free4 w b) (s : Below B w w') (hb : b < B) : Free4 w' b := h.same (s.block b hb)
theorem Box4.only {w w' : World} {lo hi b : Nat} {v0 v1 v2 v3 : Value} (h : Box4 w b v0 v1 v2 v3) (s : Only lo hi w w') (hb : b < lo ∨ hi ≤ b) : Box4 w' b v0 v1 v2 v3 := h.same (s.block b h.lt hb)
theorem Free4.only {w w' : World} {lo hi b : Nat} (h : Free4 w b) (s : Only lo hi w w') (hz : b < w.heap.size) (hb : b < lo ∨ hi ≤ b) : Free4 w' b := h.same (s.block b hz hb)
theorem Free4.set {w : World} {b : Nat} (h : Free4 w b) (p : Addr) (u : Value) : Free4 (w.setCell p u) b := by unfold Free4; simp only [World.frozen?_setCell]; exact h
theorem Box4.set1 {w : World} {b : Nat} {v0 v1 v2 v3 : Value} (h : Box4 w b v0 v1 v2 v3) (u : Value) : Box4 (w.setCell ⟨b, 1, none⟩ u) b v0 u v2 v3 :=
  ⟨(World.cell?_setCell_other _ _ _ _ (by simp)).trans h.1, World.cell?_setCell_same _ _ _ h.2.1, (World.cell?_setCell_other _ _ _ _ (by simp)).trans h.2.2.1, (World.cell?_setCell_other _ _ _ _ (by simp)).trans h.2.2.2⟩
theorem Box4.set2 {w : World} {b : Nat} {v0 v1 v2 v3 : Value} (h : Box4 w b v0 v1 v2 v3) (u : Value) : Box4 (w.setCell ⟨b, 2, none⟩ u) b v0 v1 u v3 :=
  ⟨(World.cell?_setCell_other _ _ _ _ (by simp)).trans h.1, (World.cell?_setCell_other _ _ _ _ (by simp)).trans h.2.1, World.cell?_setCell_same _ _ _ h.2.2.1, (World.cell?_setCell_other _ _ _ _ (by simp)).trans h.2.2.2⟩
theorem Box4.set3 {w : World} {b : Nat} {v0 v1 v2 v3 : Value} (h : Box4 w b v0 v1 v2 v3) (u : Value) : Box4 (w.setCell ⟨b, 3, none⟩ u) b v0 v1 v2 u :=
  ⟨(World.cell?_setCell_other _ _ _ _ (by simp)).trans h.1, (World.cell?_setCell_other _ _ _ _ (by simp)).trans h.2.1, (World.cell?_setCell_other _ _ _ _ (by simp)).trans h.2.2.1, World.cell?_setCell_same _ _ _ h.2.2.2⟩
/-- Where the ways of a round meet: the row has grown by one. -/
def CutG {α : Type} (E : FShape α) (e : TypeId) (lo hi c n : Nat) (xs : List α) (w0 wx : World) (f : Value → Prop) : Prop :=
  ∃ x kx, GrI E e lo wx.heap.size wx (.slice x n kx) xs ∧ n ≤ kx ∧ kx ≤ 9223372036854775807 ∧ w0.heap.size ≤ wx.heap.size ∧ Only c hi w0 wx ∧ f (.slice x n kx)
theorem only_call {lo hi : Nat} {W w w' : World} (h : Only lo hi W w) (f : Below w.heap.size w w') : Only lo hi W w' := h.trans (Only.of_below f (Nat.le_refl _))

def Small (s : SysC) : Prop := s.outs.length ≤ 1048576 ∧ s.hints.length ≤ 1048576 ∧ s.cons.length ≤ 1048576 ∧ (∀ t ∈ s.outs, t.length ≤ 1048576) ∧ (∀ x ∈ s.hints, x.a.length ≤ 1048576 ∧ x.b.length ≤ 1048576) ∧ (∀ c ∈ s.cons, c.a.length ≤ 1048576 ∧ c.b.length ≤ 1048576 ∧ c.c.length ≤ 1048576)
theorem same_sets {l h b : Nat} (w : World) (u0 u1 u2 u3 : Value) (hb : b < l ∨ h ≤ b) : Same l h w ((((w.setCell ⟨b, 0, none⟩ u0).setCell ⟨b, 1, none⟩ u1).setCell ⟨b, 2, none⟩ u2).setCell ⟨b, 3, none⟩ u3) := fun k h1 h2 => by
  rw [Below.heap_setCell _ _ _ _ (show k ≠ b by omega), Below.heap_setCell _ _ _ _ (show k ≠ b by omega), Below.heap_setCell _ _ _ _ (show k ≠ b by omega), Below.heap_setCell _ _ _ _ (show k ≠ b by omega)]

end Go.Proofs.Ytoeklalhbkdjnaa.L

/- Copies of systems: the model's (written by tools/gen/clones.py). -/
namespace Go.Proofs.Ytoeklalhbkdjnaa.L
open Go.RowKit Go.Proofs.Ytoeklalhbkdjnaa.S
set_option linter.unusedVariables false
end Go.Proofs.Ytoeklalhbkdjnaa.L
