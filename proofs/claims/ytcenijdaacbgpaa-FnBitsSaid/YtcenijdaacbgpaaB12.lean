/- B12: GrowC BSys Ext -/
import Derived.Test.YtcenijdaacbgpaaB5
import Derived.Test.YtcenijdaacbgpaaB3
import Derived.Test.YtcenijdaacbgpaaB11
import Derived.Test.YtcenijdaacbgpaaB9
set_option linter.unusedVariables false
set_option linter.unusedSimpArgs false
/- A slice that grows takes in another one's elements. -/
namespace Go.Proofs.Ytcenijdaacbgpaa.L
open Go.RowKit Go.Proofs.Ytcenijdaacbgpaa.S
set_option linter.unusedVariables false
set_option linter.unusedSimpArgs false

theorem GrowF.concat {α : Type} {E : FShape α} {e : TypeId} {base : Nat} {R F F2 : Nat → Prop} {w w' : World} {v v' : Value} {xs ys : List α} {css css2 : List (List Value)} {G G2 : Nat → Nat → Prop}
    (hl : css.length = xs.length) (hd : ∀ c ∈ css, c.length = E.wd) (hR : ∀ g, v.ownBlock = some g → R g) (ho : ∀ i j, i < j → j < xs.length → ∀ k, G i k → ¬ G j k) (hxx : ∀ j x cs, xs[j]? = some x → css[j]? = some cs → (∀ k, G j k → F k) ∧ E.rep true (G j) w cs x)
    (hl2 : css2.length = ys.length) (hd2 : ∀ c ∈ css2, c.length = E.wd) (ho2 : ∀ i j, i < j → j < ys.length → ∀ k, G2 i k → ¬ G2 j k) (hxx2 : ∀ j x cs, ys[j]? = some x → css2[j]? = some cs → (∀ k, G2 j k → F2 k) ∧ E.rep true (G2 j) w cs x)
    (hown : w'.ownsRow base e E.wd v' (xs.length + ys.length) (css.flatten ++ css2.flatten)) (hgr : w.grownBy w' v.ownBlock) (hat : v'.ownBlock = v.ownBlock ∨ v'.ownBlock = some w.heap.size)
    (hRF : ∀ k, R k → ¬ F k) (hRF2 : ∀ k, R k → ¬ F2 k) (hFF : ∀ k, F k → ¬ F2 k) (hb : ∀ k, R k ∨ F k ∨ F2 k → k < w.heap.size) :
    GrowF E e true base (fun k => R k ∨ Nw w w' k) (fun k => F k ∨ F2 k) w' v' (xs ++ ys) := by
  have same : SameF (fun k => F k ∨ F2 k) w w' := fun k hk => hgr.block k (hb k (.inr hk)) (fun e => by have := hR k e.symm; rcases hk with h | h; exact hRF k this h; exact hRF2 k this h)
  have hlt := hown.lt
  refine ⟨css ++ css2, fun j => if j < xs.length then G j else G2 (j - xs.length), by rw [List.length_append, List.flatten_append]; exact hown, by simp [hl, hl2], ?_, ?_, ?_, ?_⟩
  · intro c hc
    rcases List.mem_append.1 hc with hc | hc
    · exact hd c hc
    · exact hd2 c hc
  · intro g hg
    rcases hat with h | h
    · exact .inl (hR g (h ▸ hg))
    · rw [h] at hg; simp at hg; subst hg
      exact .inr ⟨Nat.le_refl _, (hlt _ h).2⟩
  · intro _ i j hij hj k
    simp only [List.length_append] at hj
    by_cases hi : i < xs.length
    · by_cases hj' : j < xs.length
      · simp only [hi, hj', if_true]; exact ho i j hij hj' k
      · simp only [hi, hj', if_true, if_false]
        have a1 : xs[i]? = some xs[i] := List.getElem?_eq_getElem hi
        have a2 : css[i]? = some css[i] := List.getElem?_eq_getElem (by omega)
        have b1 : ys[j - xs.length]? = some ys[j - xs.length] := List.getElem?_eq_getElem (by omega)
        have b2 : css2[j - xs.length]? = some css2[j - xs.length] := List.getElem?_eq_getElem (by omega)
        exact fun p q => hFF k ((hxx i _ _ a1 a2).1 k p) ((hxx2 _ _ _ b1 b2).1 k q)
    · have hj' : ¬ j < xs.length := by omega
      simp only [hi, hj', if_false]
      exact ho2 _ _ (by omega) (by omega) k
  · intro j y c hj hc
    by_cases hjn : j < xs.length
    · rw [List.getElem?_append_left hjn] at hj
      rw [List.getElem?_append_left (by omega)] at hc
      simp only [hjn, if_true]
      exact ⟨fun k h => .inl ((hxx j y c hj hc).1 k h), E.agree (hxx j y c hj hc).2 (same.sub fun k h => .inl ((hxx j y c hj hc).1 k h))⟩
    · rw [List.getElem?_append_right (by omega)] at hj
      rw [List.getElem?_append_right (by omega), hl] at hc
      simp only [hjn, if_false]
      exact ⟨fun k h => .inr ((hxx2 _ y c hj hc).1 k h), E.agree (hxx2 _ y c hj hc).2 (same.sub fun k h => .inr ((hxx2 _ y c hj hc).1 k h))⟩

/-- 'append(s, x...)', both of one's own; at a step of a region that draws. -/
theorem step_append_rowF {P : Program} (w : World) {α : Type} {E : FShape α} {base base2 : Nat} {R F R2 F2 : Nat → Prop} {ops : Array Oper} {op : Oper} {a : Act} {K : Act → World → Prop} {Q : Exit → Act → World → Prop} {Z : Prop} (hgd : op.guard = none) (s x : Operand) (t : TypeId)
    (hop : op.op = .call { callee := .builtin .append, args := #[s, x], argTypes := #[t, t] })
    (e : TypeId) (i : TypeInfo) (z : Value) (bytes : Nat) (ht : P.underlying t = some (.slice e)) (hi : P.info? e = some i) (hz : i.zero = some z)
    (hsize : i.size = E.wd) (hby : i.bytes = bytes) (hzs : z.cells.size = E.wd) (hsz : 0 < E.wd)
    (v v2 : Value) (xs ys : List α) (hs : a.eval s = v) (g : GrowF E e true base R F w v xs) (hx : a.eval x = v2) (g2 : GrowF E e true base2 R2 F2 w v2 ys)
    (hRF : ∀ k, R k → ¬ F k) (hRF2 : ∀ k, R k → ¬ F2 k) (hFF : ∀ k, F k → ¬ F2 k) (hb : ∀ k, R k ∨ F k ∨ F2 k → k < w.heap.size) (hbase : base ≤ w.heap.size)
    (h63 : xs.length + ys.length ≤ 1000000000) (hbytes : (xs.length + ys.length) * bytes ≤ 140737488355328)
    (h : ∀ a' cap' w', (GrowF E e true base (fun k => R k ∨ Nw w w' k) (fun k => F k ∨ F2 k) w' (.slice a' (xs.length + ys.length) cap') (xs ++ ys) ∧ OnlyF R w w') ∧ xs.length + ys.length ≤ cap' ∧ cap' ≤ 9223372036854775807 → K (a.put op.dst (.slice a' (xs.length + ys.length) cap')) w') :
    if Region.wanted op (yielded ops a.tmps) = true then Oper.wp P op a w K Q else Z := by
  have hw : Region.wanted op (yielded ops a.tmps) = true := by simp [Region.wanted, hgd]
  rw [if_pos hw]
  obtain ⟨css, G, hr, hl, hd, hR, ho, hxx⟩ := g
  obtain ⟨css2, G2, hr2, hl2, hd2, hR2, ho2, hxx2⟩ := g2
  have hone : ∀ u ∈ css2.flatten, u.oneCell' = true := by
    intro u hu
    obtain ⟨c, hc, huc⟩ := List.mem_flatten.1 hu
    obtain ⟨j, hj, rfl⟩ := List.mem_iff_getElem.1 hc
    exact E.one (hxx2 j _ _ (List.getElem?_eq_getElem (show j < ys.length by omega)) (List.getElem?_eq_getElem hj)).2 u huc
  have run : ∃ v' w', (Builtin.append_ #[t, t] op.type #[v, v2]).run P w = .ok v' w' ∧ w'.ownsRow base e E.wd v' (xs.length + ys.length) (css.flatten ++ css2.flatten) ∧ w.grownBy w' v.ownBlock ∧ (v'.ownBlock = v.ownBlock ∨ v'.ownBlock = some w.heap.size) := by
    rcases id hr2.2 with ⟨rfl, h0⟩ | ⟨g0, cap, cur, rfl, _⟩
    · have e0 : css2.flatten = [] := List.eq_nil_of_length_eq_zero (by rw [hr2.1, h0, Nat.zero_mul])
      exact ⟨v, w, run_append_owned_none' w base t op.type e i E.wd ht hi v _ 0 _ hr, by rw [h0, e0, List.append_nil, Nat.add_zero]; exact hr, ⟨rfl, rfl, rfl, Nat.le_refl _, fun _ _ _ => rfl⟩, .inl rfl⟩
    · obtain ⟨v', w', q1, q2, q3, _, q5⟩ := run_append_own_at (P := P) w base t op.type e i z E.wd bytes ht hi hz hsize hby hzs hsz v xs.length css.flatten hr ⟨g0, 0, none⟩ ys.length cap css2.flatten hr2.1 (hr2.cells (g := g0) rfl) hone (by unfold maxLen; omega) hbytes hbase
      exact ⟨v', w', q1, q2, q3, q5⟩
  obtain ⟨v', w', q1, q2, q3, q4⟩ := run
  have GG := GrowF.concat hl hd hR (ho rfl) hxx hl2 hd2 (ho2 rfl) hxx2 q2 q3 q4 hRF hRF2 hFF hb
  obtain ⟨a', cap', rfl⟩ := own_slice q2
  have hc : xs.length + ys.length ≤ cap' ∧ cap' ≤ 9223372036854775807 := by
    obtain ⟨_, _, e1, e2, e3⟩ := GG.shape
    simp only [Value.slice.injEq, List.length_append] at e1 e2
    rw [e1.2.2]; exact ⟨e2, e3⟩
  unfold Oper.wp execOp
  simp only [hop, resolve, invoke, builtin, Sem.run_bind, Sem.run_pure, Result.andThen_ok, List.map_toArray, List.map_cons, List.map_nil, hs, hx, q1]
  exact h a' cap' w' ⟨⟨GG, (OnlyF.refl R w).grown q3 (fun k hk => .inl (hR k hk))⟩, hc⟩

theorem GrI.grow {α : Type} {E : FShape α} {e : TypeId} {lo hi : Nat} {w : World} {v : Value} {xs : List α} (g : GrI E e lo hi w v xs) : ∃ R F : Nat → Prop, GrowF E e true lo R F w v xs ∧ (∀ k, R k → lo ≤ k ∧ k < hi) ∧ (∀ k, F k → lo ≤ k ∧ k < hi) ∧ (∀ k, R k → ¬ F k) := g
theorem GrI.rowF {α : Type} {E : FShape α} {e : TypeId} {lo hi : Nat} {w : World} {v : Value} {xs : List α} (g : GrI E e lo hi w v xs) (h : hi ≤ w.heap.size) : RowF E (fun k => lo ≤ k ∧ k < hi) w v xs := by
  obtain ⟨R, F, g, h1, h2, h3⟩ := g
  exact (RowF.of_grow g h3 (fun k q => by have := h2 k q; omega)).mono fun k q => by rcases q with q | q; exact h1 k q; exact h2 k q
/-- A copy is a system on blocks of its own. -/
theorem OwnS.sysF {lo hi : Nat} {w : World} {vi vo vh vc : Value} {s : SysC} (t : OwnS lo hi w vi vo vh vc s) (h : hi ≤ w.heap.size) : SysF (fun k => lo ≤ k ∧ k < hi) w vi vo vh vc s := by
  obtain ⟨e, f, m1, m2, h1, h2, h3, t1, t2, t3⟩ := t
  exact ⟨e, f, fun k => lo ≤ k ∧ k < m1, fun k => m1 ≤ k ∧ k < m2, fun k => m2 ≤ k ∧ k < hi, fun k q => ⟨q.1, by omega⟩, fun k q => ⟨by omega, by omega⟩, fun k q => ⟨by omega, q.2⟩, fun k q => by omega, fun k q r => by omega, fun k q r => by omega, fun k q r => by omega, t1.rowF (by omega), t2.rowF (by omega), t3.rowF h⟩
end Go.Proofs.Ytcenijdaacbgpaa.L

/- The builder's system: the given one copied, with all that was added (written by tools/gen/bsys.py). -/
namespace Go.Proofs.Ytcenijdaacbgpaa.L
open Go.RowKit Go.Proofs.Ytcenijdaacbgpaa.S
set_option linter.unusedVariables false
set_option linter.unusedSimpArgs false

/-- A system of one's own and whether there was room. -/
def RetS (ok : Bool) (t : SysC) (Q : Nat → Prop) (w : World) (e : Ending) (w' : World) : Prop :=
  ∃ ui uo uh uc F, e = .returned (.tuple #[.agg #[ui, uo, uh, uc], .bool ok]) ∧ Below w.heap.size w w' ∧ SysF F w' ui uo uh uc t ∧ (∀ k, F k → Q k ∨ w.heap.size ≤ k)
theorem RetS.of {ok ok' : Bool} {t t' : SysC} {Q F : Nat → Prop} {w w' : World} {ui uo uh uc : Value} (e1 : ok' = ok) (e2 : t' = t) (h1 : Below w.heap.size w w') (h2 : SysF F w' ui uo uh uc t) (h3 : ∀ k, F k → Q k ∨ w.heap.size ≤ k) : RetS ok' t' Q w (.returned (.tuple #[.agg #[ui, uo, uh, uc], .bool ok])) w' := by
  subst e1 e2; exact ⟨ui, uo, uh, uc, F, rfl, h1, h2, h3⟩
theorem sameF_sets {F : Nat → Prop} {b : Nat} (w : World) (u0 u1 u2 u3 : Value) (hb : ¬ F b) : SameF F w ((((w.setCell ⟨b, 0, none⟩ u0).setCell ⟨b, 1, none⟩ u1).setCell ⟨b, 2, none⟩ u2).setCell ⟨b, 3, none⟩ u3) := fun k hk => by
  have hne : k ≠ b := fun e => hb (e ▸ hk)
  rw [Below.heap_setCell _ _ _ _ hne, Below.heap_setCell _ _ _ _ hne, Below.heap_setCell _ _ _ _ hne, Below.heap_setCell _ _ _ _ hne]
theorem Box4.set0 {w : World} {b : Nat} {v0 v1 v2 v3 : Value} (h : Box4 w b v0 v1 v2 v3) (u : Value) : Box4 (w.setCell ⟨b, 0, none⟩ u) b u v1 v2 v3 :=
  ⟨World.cell?_setCell_same _ _ _ h.1, (World.cell?_setCell_other _ _ _ _ (by simp)).trans h.2.1, (World.cell?_setCell_other _ _ _ _ (by simp)).trans h.2.2.1, (World.cell?_setCell_other _ _ _ _ (by simp)).trans h.2.2.2⟩
theorem Box4.copied {w : World} {b : Nat} {v0 v1 v2 v3 : Value} (h : Box4 w b v0 v1 v2 v3) (u0 u1 u2 u3 : Value) : Box4 ((((w.setCell ⟨b, 0, none⟩ u0).setCell ⟨b, 1, none⟩ u1).setCell ⟨b, 2, none⟩ u2).setCell ⟨b, 3, none⟩ u3) b u0 u1 u2 u3 := (((h.set0 u0).set1 u1).set2 u2).set3 u3

set_option maxRecDepth 100000 in
set_option maxHeartbeats 12800000 in
theorem systemB_any (base g : Nat) (gv : Gv) (s : SysC) (b : Bd) (Q : Nat → Prop) (o : Bool) (l h : Nat) (w : World) (B : Bld base g gv s b Q w) (ts : SysR o l h w (.int .i64 s.ins) (.slice gv.ao s.outs.length gv.ko) (.slice gv.ah s.hints.length gv.kh) (.slice gv.ac s.cons.length gv.kc) s)
    (hh : h ≤ w.heap.size) (sm : Small s) (nb : b.n ≤ 1000000) :
    Calls Try.prog 43 #[.pointer (some ⟨g, 0, none⟩)] w (RetS (bOk b) (bSys s b) Q w) := by
  obtain ⟨j2, hj2, hz2, hs2, hb2⟩ := info_parts HintInfo
  obtain ⟨j3, hj3, hz3, hs3, hb3⟩ := info_parts ConInfo
  have LQ := Lib.hid B.lim
  have lg := B.glt
  obtain ⟨-, -, -, ⟨c0, c1, c2, c3⟩, -, nhs, vH, vC, c4, c5, c6, R1, F1, R2, F2, gH, gC, q1, q2, q3, q4⟩ := id B
  have fit := ts.shape.choose_spec.choose_spec.choose_spec.choose_spec.choose_spec.choose_spec.2.2.2.2.2.2.2.2.2.2
  obtain ⟨nO, nH, nC, -⟩ := id sm
  obtain ⟨H, kH, rfl, lH, bH⟩ := gH.shape
  obtain ⟨Cx, kC, rfl, lC, bC⟩ := gC.shape
  have Q1 := Lib.hid q1
  have Q2 := Lib.hid q2
  have Q3 := Lib.hid q3
  have Q4 := Lib.hid q4
  clear q1 q2 q3 q4 B
  go_enter Try.func43, Try.ntmps43
  go_wp2_with fail
  refine name_call fun w1 hw1 => ?_
  have e1 : Below w.heap.size w w1 := by rw [hw1]; (repeat (with_reducible first | exact bR _ _ | assumption | refine bD ?_ | refine bN ?_ _ | refine bA ?_ _ | refine bS ?_ _))
  have z1 : w.heap.size + 1 ≤ w1.heap.size := by rw [hw1]; simp
  have BR : Box4 w1 w.heap.size (.int .i64 0) (.slice none 0 0) (.slice none 0 0) (.slice none 0 0) := ⟨by rw [hw1]; first | (simp; done) | go_simp, by rw [hw1]; first | (simp; done) | go_simp, by rw [hw1]; first | (simp; done) | go_simp, by rw [hw1]; first | (simp; done) | go_simp⟩
  have FR : Free4 w1 w.heap.size := ⟨by rw [hw1]; first | (simp; done) | go_simp, by rw [hw1]; first | (simp; done) | go_simp, by rw [hw1]; first | (simp; done) | go_simp, by rw [hw1]; first | (simp; done) | go_simp⟩
  clear hw1
  refine (sysClone_any o l h _ _ _ _ s w1 (ts.keep e1 hh) (by omega) sm).mono ?_; rintro e w2 ⟨ui, uo, uh, uc, rfl, f2, own⟩
  obtain ⟨rfl, fi, m1, m2, p1, p2, p3, O0, O1, O2⟩ := own
  obtain ⟨x0, k0, rfl, l0, b0⟩ := O0.shape
  obtain ⟨x1, k1, rfl, l1, b1⟩ := O1.shape
  obtain ⟨x2, k2, rfl, l2, b2⟩ := O2.shape
  have z2 := f2.size
  have e2 : Below w.heap.size w w2 := e1.trans (f2.mono (by omega))
  have BR2 := BR.keep f2 (by omega)
  have FR2 := FR.keep f2 (by omega)
  clear BR FR ts
  have wadd : IntKind.i64.wrap ((b.hs.length : Int) + (b.cs.length : Int)) = (b.hs.length : Int) + (b.cs.length : Int) := IntWalk.i64_in _ (by omega)
  go_wp2_with fail
  refine name_wp fun w3 hw3 => ?_
  have e3 : Below w2.heap.size w2 w3 := by rw [hw3]; (repeat (with_reducible first | exact bR _ _ | assumption | refine bD ?_ | refine bN ?_ _ | refine bA ?_ _ | refine bS ?_ _))
  have z3 : w2.heap.size + 1 ≤ w3.heap.size := by rw [hw3]; simp
  have CB : Box4 w3 w2.heap.size (.int .i64 s.ins) (.slice x0 s.outs.length k0) (.slice x1 s.hints.length k1) (.slice x2 s.cons.length k2) := ⟨by rw [hw3]; first | (simp; done) | go_simp, by rw [hw3]; first | (simp; done) | go_simp, by rw [hw3]; first | (simp; done) | go_simp, by rw [hw3]; first | (simp; done) | go_simp⟩
  have FB : Free4 w3 w2.heap.size := ⟨by rw [hw3]; first | (simp; done) | go_simp, by rw [hw3]; first | (simp; done) | go_simp, by rw [hw3]; first | (simp; done) | go_simp, by rw [hw3]; first | (simp; done) | go_simp⟩
  clear hw3
  have e03 : Below w.heap.size w w3 := e2.trans (e3.mono (by omega))
  have g4 := cell_keep e03 c4
  have g5 := cell_keep e03 c5
  have g6 := cell_keep e03 c6
  have lg3 : g < w3.heap.size := by omega
  have dz : Below w3.heap.size w3 w3.drew := (Below.refl _ _).drew
  have K6 : Hid (w3.drew.cell? ⟨g, 4, none⟩ = some (.slice H b.hs.length kH) ∧ w3.drew.cell? ⟨g, 5, none⟩ = some (.slice Cx b.cs.length kC) ∧ w3.drew.cell? ⟨g, 6, none⟩ = some (.int .i64 (b.n : Int))) := Lib.hid ⟨cell_keep dz g4, cell_keep dz g5, cell_keep dz g6⟩
  clear c0 c1 c2 c3 c4 c5 c6 g6
  cases hk : bOk b
  · have hb : ((b.n : Int) != (b.hs.length : Int) + (b.cs.length : Int)) = true := by unfold bOk at hk; rw [decide_eq_false_iff_not] at hk; simp; omega
    have HS : Hid (bSys s b = s) := Lib.hid (by unfold bSys; rw [hk]; rfl)
    have HK := Lib.hid hk
    clear hk
    go_region_held3 (fun w' => w'.cell? ⟨g, 4, none⟩ = some (.slice H b.hs.length kH) ∧ w'.cell? ⟨g, 5, none⟩ = some (.slice Cx b.cs.length kC) ∧ w'.cell? ⟨g, 6, none⟩ = some (.int .i64 (b.n : Int))) (exact K6.out) (first | (go_at_call 66; (with_reducible refine (atomicLoad_any g 6 (b.n : Int) _ K6.out.2.2).mono ?_); rintro e w' ⟨rfl, rfl⟩))
    generalize hw4 : w3.drew = w4 at *
    have z4 : w3.heap.size ≤ w4.heap.size := by rw [← hw4]; exact Nat.le_refl _
    have z4' : w4.heap.size ≤ w3.heap.size := by rw [← hw4]; exact Nat.le_refl _
    clear hw4 K6 wadd
    have e34 := e03.trans (dz.mono (by omega))
    have BR4 := (BR2.keep e3 (by omega)).keep dz (by omega)
    have FR4 := (FR2.keep e3 (by omega)).keep dz (by omega)
    have CB4 := CB.keep dz (by omega)
    have OW : SysF (fun k => w1.heap.size + 3 ≤ k ∧ k < w2.heap.size) w4 (.int .i64 s.ins) (.slice x0 s.outs.length k0) (.slice x1 s.hints.length k1) (.slice x2 s.cons.length k2) s := (OwnS.sysF ⟨rfl, fi, m1, m2, p1, p2, p3, O0, O1, O2⟩ (Nat.le_refl _)).agree (SameF.of_below (e3.trans (dz.mono (by omega))) (fun k q => q.2)) (by omega)
    obtain ⟨s0, s1, s2, s3⟩ := CB4
    obtain ⟨r0, r1, r2, r3⟩ := id BR4
    obtain ⟨y0, y1, y2, y3⟩ := FR4
    have lA : w2.heap.size < w4.heap.size := by omega
    have lB : w.heap.size < w4.heap.size := by omega
    clear hb g4 g5 dz e3 CB FB BR2 FR2
    go_wp2_with fail
    obtain ⟨t0, t1, t2, t3⟩ := BR4.copied (.int .i64 s.ins) (.slice x0 s.outs.length k0) (.slice x1 s.hints.length k1) (.slice x2 s.cons.length k2)
    exact bodyPost_ret (v := .tuple #[.agg #[.int .i64 s.ins, .slice x0 s.outs.length k0, .slice x1 s.hints.length k1, .slice x2 s.cons.length k2], .bool false]) (by simp [results, Try.results43, go_sem, t0, t1, t2, t3]) rfl (RetS.of HK.out HS.out (by (repeat (with_reducible first | exact bR _ _ | assumption | refine bD ?_ | refine bN ?_ _ | refine bA ?_ _ | refine bS ?_ _))) (OW.agree (sameF_sets _ _ _ _ _ (fun q => by have := q.1; omega)) (by simp)) (fun k q => .inr (by omega)))
  have hb : ((b.n : Int) != (b.hs.length : Int) + (b.cs.length : Int)) = false := by have := of_decide_eq_true hk; simp; omega
  have HS : Hid (bSys s b = ⟨s.ins, s.outs, s.hints ++ b.hs, s.cons ++ b.cs⟩) := Lib.hid (by unfold bSys; rw [hk]; rfl)
  have HK := Lib.hid hk
  clear hk
  go_region_held3 (fun w' => w'.cell? ⟨g, 4, none⟩ = some (.slice H b.hs.length kH) ∧ w'.cell? ⟨g, 5, none⟩ = some (.slice Cx b.cs.length kC) ∧ w'.cell? ⟨g, 6, none⟩ = some (.int .i64 (b.n : Int))) (exact K6.out) (first | (go_at_call 66; (with_reducible refine (atomicLoad_any g 6 (b.n : Int) _ K6.out.2.2).mono ?_); rintro e w' ⟨rfl, rfl⟩))
  generalize hw4 : w3.drew = w4 at *
  have z4 : w3.heap.size ≤ w4.heap.size := by rw [← hw4]; exact Nat.le_refl _
  have z4' : w4.heap.size ≤ w3.heap.size := by rw [← hw4]; exact Nat.le_refl _
  clear hw4 K6 wadd
  obtain ⟨RA, FA, GA, ra1, fa1, ra2⟩ := O1.grow
  obtain ⟨RC, FC, GC, rc1, fc1, rc2⟩ := O2.grow
  have RA1 := Lib.hid ra1
  have FA1 := Lib.hid fa1
  have RA2 := Lib.hid ra2
  have RC1 := Lib.hid rc1
  have FC1 := Lib.hid fc1
  have RC2 := Lib.hid rc2
  clear ra1 fa1 ra2 rc1 fc1 rc2 O1 O2
  have e24 : Below w2.heap.size w2 w4 := e3.trans (dz.mono (by omega))
  have e04 : Below w.heap.size w w4 := e03.trans (dz.mono (by omega))
  have BR4 := BR2.keep e24 (by omega)
  have FR4 := FR2.keep e24 (by omega)
  have CB4 := CB.keep dz (by omega)
  have FB4 := FB.keep dz (by omega)
  have O04 := O0.keep e24 (by omega)
  have GA4 := GA.agree (SameF.of_below e24 (fun k q => by rcases q with q | q; have := RA1.out k q; omega; have := FA1.out k q; omega))
  have GC4 := GC.agree (SameF.of_below e24 (fun k q => by rcases q with q | q; have := RC1.out k q; omega; have := FC1.out k q; omega))
  have GH4 := gH.agree (SameF.of_below e04 (fun k q => LQ.out k (Q1.out k (by rcases q with q | q; exact .inl q; exact .inr (.inl q))).1))
  have GX4 := gC.agree (SameF.of_below e04 (fun k q => LQ.out k (Q1.out k (by rcases q with q | q; exact .inr (.inr (.inl q)); exact .inr (.inr (.inr q)))).1))
  have h4 := cell_keep dz g4
  have h5 := cell_keep dz g5
  have lgw : g < w4.heap.size := by omega
  clear hb g4 g5 CB FB BR2 FR2 O0 GA GC gH gC e3 dz
  go_wp2_with fail
  have dw4 : Below w4.heap.size w4 w4.drew := (Below.refl _ _).drew
  have zdw4 : w4.heap.size ≤ w4.drew.heap.size := Nat.le_refl _
  have zew4 : w4.drew.heap.size ≤ w4.heap.size := Nat.le_refl _
  have K0 : Hid (∀ w', Only m1 m2 w4.drew w' → w'.cell? ⟨w2.heap.size, 2, none⟩ = some (.slice x1 s.hints.length k1)) := Lib.hid (fun w' h => (h.cell (by omega) (by omega) _).trans (cell_keep dw4 CB4.2.2.1))
  have K1 : Hid (∀ w', Only m1 m2 w4.drew w' → w'.cell? ⟨g, 4, none⟩ = some (.slice H b.hs.length kH)) := Lib.hid (fun w' h => (h.cell (by omega) (by omega) _).trans (cell_keep dw4 h4))
  have o0 : Only m1 m2 w4.drew w4.drew := Only.refl _ _ _
  refine wp_region_tailL (S := fun w' => w'.cell? ⟨w2.heap.size, 2, none⟩ = some (.slice x1 s.hints.length k1) ∧ w'.cell? ⟨g, 4, none⟩ = some (.slice H b.hs.length kH)) (by kernel_rfl) (by simp) (by kernel_rfl) ⟨K0.out _ o0, K1.out _ o0⟩ (fun hHeld => ?_)
  simp only [List.dropLast_cons_cons, List.dropLast_singleton, List.getLast_cons_cons, List.getLast_singleton]
  refine wpAnyH_take (i := 0) rfl (by kernel_rfl) (by kernel_rfl) (by kernel_rfl) (fun _ _ _ h => h) (v := ?_) (Or.inl ⟨by rfl, ?_⟩) (by assumption) ?_
  case refine_2 => (intro w hSw; (try dsimp only at hSw); go_simp; (try with_reducible rfl))
  try simp only [Act.put, List.setIfInBounds_toArray, List.set_cons_zero, List.set_cons_succ, List.getElem_toArray, List.getElem_cons_succ, List.getElem_cons_zero]
  refine wpAnyH_take (i := 1) rfl (by kernel_rfl) (by kernel_rfl) (by kernel_rfl) (fun _ _ _ h => h) (v := ?_) (Or.inl ⟨by rfl, ?_⟩) (by assumption) ?_
  case refine_2 => (intro w hSw; (try dsimp only at hSw); go_simp; (try with_reducible rfl))
  try simp only [Act.put, List.setIfInBounds_toArray, List.set_cons_zero, List.set_cons_succ, List.getElem_toArray, List.getElem_cons_succ, List.getElem_cons_zero]
  refine wpAnyH_take (i := 2) rfl (by kernel_rfl) (by kernel_rfl) (by kernel_rfl) (fun _ _ _ h => h) (v := ?_) (Or.inl ⟨by rfl, ?_⟩) (by assumption) ?_
  case refine_2 => (intro w hSw; (try dsimp only at hSw); go_simp; (try with_reducible rfl))
  try simp only [Act.put, List.setIfInBounds_toArray, List.set_cons_zero, List.set_cons_succ, List.getElem_toArray, List.getElem_cons_succ, List.getElem_cons_zero]
  refine wpAnyH_take (i := 3) rfl (by kernel_rfl) (by kernel_rfl) (by kernel_rfl) (fun _ _ _ h => h) (v := ?_) (Or.inl ⟨by rfl, ?_⟩) (by assumption) ?_
  case refine_2 => (intro w hSw; (try dsimp only at hSw); go_simp; (try with_reducible rfl))
  try simp only [Act.put, List.setIfInBounds_toArray, List.set_cons_zero, List.set_cons_succ, List.getElem_toArray, List.getElem_cons_succ, List.getElem_cons_zero]
  refine wpAnyH_take (i := 4) rfl (by kernel_rfl) (by kernel_rfl) (by kernel_rfl) (fun _ _ _ h => h) (v := ?_) (Or.inl ⟨by rfl, ?_⟩) (by assumption) ?_
  case refine_2 => (intro w hSw; (try dsimp only at hSw); go_simp; (try with_reducible rfl))
  try simp only [Act.put, List.setIfInBounds_toArray, List.set_cons_zero, List.set_cons_succ, List.getElem_toArray, List.getElem_cons_succ, List.getElem_cons_zero]
  refine wpAnyH_take (i := 5) rfl (by kernel_rfl) (by kernel_rfl) (by kernel_rfl) (fun _ _ _ h => h) (v := ?_) (Or.inl ⟨by rfl, ?_⟩) (by assumption) ?_
  case refine_2 => (intro w hSw; (try dsimp only at hSw); go_simp; (try with_reducible rfl))
  try simp only [Act.put, List.setIfInBounds_toArray, List.set_cons_zero, List.set_cons_succ, List.getElem_toArray, List.getElem_cons_succ, List.getElem_cons_zero]
  refine wpAnyH_ready (rs := [6]) (by kernel_rfl) (by simp) ?_
  refine AllReadyH.cons rfl (fun K hK => ?_) AllReadyH.nil
  refine step_append_rowF _ rfl _ _ 29 rfl 96 j2 (.agg #[.int .i64 0, .slice none 0 0, .slice none 0 0, .int .i64 0]) 64 Try.underlying29 hj2 hz2 hs2 hb2 rfl (by decide) (.slice x1 s.hints.length k1) (.slice H b.hs.length kH) _ _ rfl (GA4.agree (fun k _ => rfl)) rfl (GH4.agree (fun k _ => rfl)) RA2.out (fun k q r => by have := RA1.out k q; have := LQ.out k (Q1.out k (.inr (.inl r))).1; omega) (fun k q r => by have := FA1.out k q; have := LQ.out k (Q1.out k (.inr (.inl r))).1; omega) (fun k q => by rcases q with q | q | q; have := RA1.out k q; omega; have := FA1.out k q; omega; have := LQ.out k (Q1.out k (.inr (.inl q))).1; omega) (by omega) (by omega) (by omega) ?_
  rintro aA capA yA ⟨⟨GnA, onA⟩, lcA, mcA⟩
  have oyA := onA.only RA1.out
  refine hK.out _ _ ⟨K0.out _ oyA, K1.out _ oyA⟩ (fun hHeld => ?_)
  clear hK K
  try simp only [Act.put, List.setIfInBounds_toArray, List.set_cons_zero, List.set_cons_succ, List.getElem_toArray, List.getElem_cons_succ, List.getElem_cons_zero]
  refine wpAnyH_take (i := 7) rfl (by kernel_rfl) (by kernel_rfl) (by kernel_rfl) (fun _ _ _ h => h) (v := ?_) (Or.inl ⟨by rfl, ?_⟩) (by assumption) ?_
  case refine_2 => (intro w hSw; (try dsimp only at hSw); go_simp; (try with_reducible rfl))
  try simp only [Act.put, List.setIfInBounds_toArray, List.set_cons_zero, List.set_cons_succ, List.getElem_toArray, List.getElem_cons_succ, List.getElem_cons_zero]
  refine wpAnyH_done (by kernel_rfl) ?_ _
  show Oper.wp _ _ _ _ _ _
  have zA := oyA.size
  have cA := K0.out _ oyA
  have fA : yA.frozen? ⟨w2.heap.size, 2, none⟩ = false := (oyA.frozen (by omega) (by omega) 2).trans ((dw4.frozen (p := ⟨w2.heap.size, 2, none⟩) (show w2.heap.size < w4.heap.size by omega)).trans FB4.2.2.1)
  clear K0 K1 hHeld
  go_simp
  generalize hw5 : yA.setCell ⟨w2.heap.size, 2, none⟩ _ = w5
  have z5 : yA.heap.size ≤ w5.heap.size := by rw [← hw5, World.size_setCell]; exact Nat.le_refl _
  have z5' : w5.heap.size ≤ yA.heap.size := by rw [← hw5, World.size_setCell]; exact Nat.le_refl _
  have o45 : Only m1 m2 w4 yA := (Only.of_below dw4 (Nat.le_refl _)).trans oyA
  have st : ∀ k, k ≠ w2.heap.size → w5.heap[k]? = yA.heap[k]? := fun k hk => by rw [← hw5]; exact Below.heap_setCell _ _ _ _ hk
  have ST5 := Lib.hid st
  clear st
  have BR5 := (BR4.only o45 (by omega)).same (ST5.out _ (by omega))
  have FR5 := (FR4.only o45 (by omega) (by omega)).same (ST5.out _ (by omega))
  have CB5 : Box4 w5 w2.heap.size (.int .i64 s.ins) (.slice x0 s.outs.length k0) (.slice aA (s.hints.length + b.hs.length) capA) (.slice x2 s.cons.length k2) := by rw [← hw5]; exact (CB4.only o45 (by omega)).set2 _
  have FB5 : Free4 w5 w2.heap.size := by rw [← hw5]; exact (FB4.only o45 (by omega) (by omega)).set _ _
  have O05 : GrI _ _ _ _ w5 _ _ := (O04.agree (Same.of_only o45 (by omega) (by omega))).agree (fun k a1 a2 => ST5.out k (by omega))
  have GC5 := GC4.agree (w' := w5) (fun k q => have hk : m2 ≤ k ∧ k < w2.heap.size := q.elim (RC1.out k) (FC1.out k); (ST5.out k (by omega)).trans (o45.block k (by omega) (by omega)))
  have GX5 := GX4.agree (w' := w5) (fun k q => have hk := LQ.out k (Q1.out k (.inr (.inr q))).1; (ST5.out k (by omega)).trans (o45.block k (by omega) (by omega)))
  have GN5 := GnA.agree (w' := w5) (fun k q => ST5.out k (fun e => by
      rcases q with (q | q) | (q | q)
      · have := RA1.out _ q; omega
      · have := q.1; have := q.2; omega
      · have := FA1.out _ q; omega
      · have := LQ.out _ (Q1.out _ (.inr (.inl q))).1; omega))
  have h55 : w5.cell? ⟨g, 5, none⟩ = some (.slice Cx b.cs.length kC) := by rw [World.cell?_of_block (a := ⟨g, 5, none⟩) (ST5.out g (by omega))]; exact (o45.cell (by omega) (by omega) 5).trans h5
  have e05 : Below w.heap.size w w5 := e04.trans ((o45.below (by omega) (by omega)).trans (by rw [← hw5]; exact (Below.refl _ _).setCell (by simp; omega) _))
  have NA : Hid (∀ k, Nw w4.drew yA k → w4.heap.size ≤ k ∧ k < w5.heap.size) := Lib.hid (fun k q => ⟨q.1, Nat.lt_of_lt_of_le q.2 z5⟩)
  have lg5 : g < w5.heap.size := by omega
  clear hw5 BR4 FR4 CB4 FB4 O04 GA4 GC4 GH4 GX4 GnA onA oyA o45 h4 h5 cA fA dw4
  go_wp2_with fail
  have dw5 : Below w5.heap.size w5 w5.drew := (Below.refl _ _).drew
  have zdw5 : w5.heap.size ≤ w5.drew.heap.size := Nat.le_refl _
  have zew5 : w5.drew.heap.size ≤ w5.heap.size := Nat.le_refl _
  have K0 : Hid (∀ w', Only m2 w2.heap.size w5.drew w' → w'.cell? ⟨w2.heap.size, 3, none⟩ = some (.slice x2 s.cons.length k2)) := Lib.hid (fun w' h => (h.cell (by omega) (by omega) _).trans (cell_keep dw5 CB5.2.2.2))
  have K1 : Hid (∀ w', Only m2 w2.heap.size w5.drew w' → w'.cell? ⟨g, 5, none⟩ = some (.slice Cx b.cs.length kC)) := Lib.hid (fun w' h => (h.cell (by omega) (by omega) _).trans (cell_keep dw5 h55))
  have o0 : Only m2 w2.heap.size w5.drew w5.drew := Only.refl _ _ _
  refine wp_region_tailL (S := fun w' => w'.cell? ⟨w2.heap.size, 3, none⟩ = some (.slice x2 s.cons.length k2) ∧ w'.cell? ⟨g, 5, none⟩ = some (.slice Cx b.cs.length kC)) (by kernel_rfl) (by simp) (by kernel_rfl) ⟨K0.out _ o0, K1.out _ o0⟩ (fun hHeld => ?_)
  simp only [List.dropLast_cons_cons, List.dropLast_singleton, List.getLast_cons_cons, List.getLast_singleton]
  refine wpAnyH_take (i := 0) rfl (by kernel_rfl) (by kernel_rfl) (by kernel_rfl) (fun _ _ _ h => h) (v := ?_) (Or.inl ⟨by rfl, ?_⟩) (by assumption) ?_
  case refine_2 => (intro w hSw; (try dsimp only at hSw); go_simp; (try with_reducible rfl))
  try simp only [Act.put, List.setIfInBounds_toArray, List.set_cons_zero, List.set_cons_succ, List.getElem_toArray, List.getElem_cons_succ, List.getElem_cons_zero]
  refine wpAnyH_take (i := 1) rfl (by kernel_rfl) (by kernel_rfl) (by kernel_rfl) (fun _ _ _ h => h) (v := ?_) (Or.inl ⟨by rfl, ?_⟩) (by assumption) ?_
  case refine_2 => (intro w hSw; (try dsimp only at hSw); go_simp; (try with_reducible rfl))
  try simp only [Act.put, List.setIfInBounds_toArray, List.set_cons_zero, List.set_cons_succ, List.getElem_toArray, List.getElem_cons_succ, List.getElem_cons_zero]
  refine wpAnyH_take (i := 2) rfl (by kernel_rfl) (by kernel_rfl) (by kernel_rfl) (fun _ _ _ h => h) (v := ?_) (Or.inl ⟨by rfl, ?_⟩) (by assumption) ?_
  case refine_2 => (intro w hSw; (try dsimp only at hSw); go_simp; (try with_reducible rfl))
  try simp only [Act.put, List.setIfInBounds_toArray, List.set_cons_zero, List.set_cons_succ, List.getElem_toArray, List.getElem_cons_succ, List.getElem_cons_zero]
  refine wpAnyH_take (i := 3) rfl (by kernel_rfl) (by kernel_rfl) (by kernel_rfl) (fun _ _ _ h => h) (v := ?_) (Or.inl ⟨by rfl, ?_⟩) (by assumption) ?_
  case refine_2 => (intro w hSw; (try dsimp only at hSw); go_simp; (try with_reducible rfl))
  try simp only [Act.put, List.setIfInBounds_toArray, List.set_cons_zero, List.set_cons_succ, List.getElem_toArray, List.getElem_cons_succ, List.getElem_cons_zero]
  refine wpAnyH_take (i := 4) rfl (by kernel_rfl) (by kernel_rfl) (by kernel_rfl) (fun _ _ _ h => h) (v := ?_) (Or.inl ⟨by rfl, ?_⟩) (by assumption) ?_
  case refine_2 => (intro w hSw; (try dsimp only at hSw); go_simp; (try with_reducible rfl))
  try simp only [Act.put, List.setIfInBounds_toArray, List.set_cons_zero, List.set_cons_succ, List.getElem_toArray, List.getElem_cons_succ, List.getElem_cons_zero]
  refine wpAnyH_take (i := 5) rfl (by kernel_rfl) (by kernel_rfl) (by kernel_rfl) (fun _ _ _ h => h) (v := ?_) (Or.inl ⟨by rfl, ?_⟩) (by assumption) ?_
  case refine_2 => (intro w hSw; (try dsimp only at hSw); go_simp; (try with_reducible rfl))
  try simp only [Act.put, List.setIfInBounds_toArray, List.set_cons_zero, List.set_cons_succ, List.getElem_toArray, List.getElem_cons_succ, List.getElem_cons_zero]
  refine wpAnyH_ready (rs := [6]) (by kernel_rfl) (by simp) ?_
  refine AllReadyH.cons rfl (fun K hK => ?_) AllReadyH.nil
  refine step_append_rowF _ rfl _ _ 30 rfl 72 j3 (.agg #[.slice none 0 0, .slice none 0 0, .slice none 0 0]) 72 Try.underlying30 hj3 hz3 hs3 hb3 rfl (by decide) (.slice x2 s.cons.length k2) (.slice Cx b.cs.length kC) _ _ rfl (GC5.agree (fun k _ => rfl)) rfl (GX5.agree (fun k _ => rfl)) RC2.out (fun k q r => by have := RC1.out k q; have := LQ.out k (Q1.out k (.inr (.inr (.inr r)))).1; omega) (fun k q r => by have := FC1.out k q; have := LQ.out k (Q1.out k (.inr (.inr (.inr r)))).1; omega) (fun k q => by rcases q with q | q | q; have := RC1.out k q; omega; have := FC1.out k q; omega; have := LQ.out k (Q1.out k (.inr (.inr (.inr q)))).1; omega) (by omega) (by omega) (by omega) ?_
  rintro aB capB yB ⟨⟨GnB, onB⟩, lcB, mcB⟩
  have oyB := onB.only RC1.out
  refine hK.out _ _ ⟨K0.out _ oyB, K1.out _ oyB⟩ (fun hHeld => ?_)
  clear hK K
  try simp only [Act.put, List.setIfInBounds_toArray, List.set_cons_zero, List.set_cons_succ, List.getElem_toArray, List.getElem_cons_succ, List.getElem_cons_zero]
  refine wpAnyH_take (i := 7) rfl (by kernel_rfl) (by kernel_rfl) (by kernel_rfl) (fun _ _ _ h => h) (v := ?_) (Or.inl ⟨by rfl, ?_⟩) (by assumption) ?_
  case refine_2 => (intro w hSw; (try dsimp only at hSw); go_simp; (try with_reducible rfl))
  try simp only [Act.put, List.setIfInBounds_toArray, List.set_cons_zero, List.set_cons_succ, List.getElem_toArray, List.getElem_cons_succ, List.getElem_cons_zero]
  refine wpAnyH_done (by kernel_rfl) ?_ _
  show Oper.wp _ _ _ _ _ _
  have zB := oyB.size
  have cB := K0.out _ oyB
  have fB : yB.frozen? ⟨w2.heap.size, 3, none⟩ = false := (oyB.frozen (by omega) (by omega) 3).trans ((dw5.frozen (p := ⟨w2.heap.size, 3, none⟩) (show w2.heap.size < w5.heap.size by omega)).trans FB5.2.2.2)
  clear K0 K1 hHeld
  go_simp
  generalize hw6 : yB.setCell ⟨w2.heap.size, 3, none⟩ _ = w6
  have z6 : yB.heap.size ≤ w6.heap.size := by rw [← hw6, World.size_setCell]; exact Nat.le_refl _
  have z6' : w6.heap.size ≤ yB.heap.size := by rw [← hw6, World.size_setCell]; exact Nat.le_refl _
  have o56 : Only m2 w2.heap.size w5 yB := (Only.of_below dw5 (Nat.le_refl _)).trans oyB
  have st : ∀ k, k ≠ w2.heap.size → w6.heap[k]? = yB.heap[k]? := fun k hk => by rw [← hw6]; exact Below.heap_setCell _ _ _ _ hk
  have ST6 := Lib.hid st
  clear st
  have BR6 := (BR5.only o56 (by omega)).same (ST6.out _ (by omega))
  have FR6 := (FR5.only o56 (by omega) (by omega)).same (ST6.out _ (by omega))
  have CB6 : Box4 w6 w2.heap.size (.int .i64 s.ins) (.slice x0 s.outs.length k0) (.slice aA (s.hints.length + b.hs.length) capA) (.slice aB (s.cons.length + b.cs.length) capB) := by rw [← hw6]; exact (CB5.only o56 (by omega)).set3 _
  have O06 : GrI _ _ _ _ w6 _ _ := (O05.agree (Same.of_only o56 (by omega) (by omega))).agree (fun k a1 a2 => ST6.out k (by omega))
  have kN : ∀ k, ((RA k ∨ Nw w4.drew yA k) ∨ FA k ∨ F1 k) → (k < m2 ∨ w2.heap.size < k) ∧ k < w5.heap.size ∧ m1 ≤ k ∨ k < w.heap.size ∧ F1 k := fun k q => by
    rcases q with (q | q) | (q | q)
    · have := RA1.out k q; exact .inl ⟨by omega, by omega, by omega⟩
    · have := NA.out k q; exact .inl ⟨by omega, by omega, by omega⟩
    · have := FA1.out k q; exact .inl ⟨by omega, by omega, by omega⟩
    · exact .inr ⟨LQ.out k (Q1.out k (.inr (.inl q))).1, q⟩
  have KN := Lib.hid kN
  clear kN
  have GN6 := GN5.agree (w' := w6) (fun k q => have hk := KN.out k q; (ST6.out k (by omega)).trans (o56.block k (by omega) (by omega)))
  have NB : Hid (∀ k, Nw w5.drew yB k → w5.heap.size ≤ k ∧ k < w6.heap.size) := Lib.hid (fun k q => ⟨q.1, Nat.lt_of_lt_of_le q.2 z6⟩)
  have GX6 := GnB.agree (w' := w6) (fun k q => ST6.out k (fun e => by
      rcases q with (q | q) | (q | q)
      · have := RC1.out _ q; omega
      · have := NB.out _ q; omega
      · have := FC1.out _ q; omega
      · have := LQ.out _ (Q1.out _ (.inr (.inr (.inr q)))).1; omega))
  have e06 : Below w.heap.size w w6 := e05.trans ((o56.below (by omega) (by omega)).trans (by rw [← hw6]; exact (Below.refl _ _).setCell (by simp; omega) _))
  have kX : ∀ k, ((RC k ∨ Nw w5.drew yB k) ∨ FC k ∨ F2 k) → m2 ≤ k ∧ k < w2.heap.size ∨ w5.heap.size ≤ k ∧ k < w6.heap.size ∨ k < w.heap.size ∧ F2 k := fun k q => by
    rcases q with (q | q) | (q | q)
    · exact .inl (RC1.out k q)
    · exact .inr (.inl (NB.out k q))
    · exact .inl (FC1.out k q)
    · exact .inr (.inr ⟨LQ.out k (Q1.out k (.inr (.inr (.inr q)))).1, q⟩)
  have KX := Lib.hid kX
  clear kX
  clear hw6 BR5 FR5 CB5 FB5 O05 GC5 GX5 GN5 GnB onB oyB o56 h55 cB fB dw5
  have rN := RowF.of_grow GN6 (fun k q r => by
      rcases q with q | q
      · rcases r with r | r
        · exact RA2.out k q r
        · have := RA1.out k q; have := LQ.out k (Q1.out k (.inr (.inl r))).1; omega
      · have hq := NA.out k q
        rcases r with r | r
        · have := FA1.out k r; omega
        · have := LQ.out k (Q1.out k (.inr (.inl r))).1; omega) (fun k q => by have := KN.out k (.inr q); omega)
  have rX := RowF.of_grow GX6 (fun k q r => by
      rcases q with q | q
      · rcases r with r | r
        · exact RC2.out k q r
        · have := RC1.out k q; have := LQ.out k (Q1.out k (.inr (.inr (.inr r)))).1; omega
      · have hq := NB.out k q
        rcases r with r | r
        · have := FC1.out k r; omega
        · have := LQ.out k (Q1.out k (.inr (.inr (.inr r)))).1; omega) (fun k q => by have := KX.out k (.inr q); omega)
  have rO := O06.rowF (by omega)
  have eLh : (s.hints ++ b.hs).length = s.hints.length + b.hs.length := List.length_append
  have eLc : (s.cons ++ b.cs).length = s.cons.length + b.cs.length := List.length_append
  have OW : SysF (fun k => (w1.heap.size + 3 ≤ k ∧ k < m1) ∨ ((RA k ∨ Nw w4.drew yA k) ∨ FA k ∨ F1 k) ∨ ((RC k ∨ Nw w5.drew yB k) ∨ FC k ∨ F2 k)) w6 (.int .i64 s.ins) (.slice x0 s.outs.length k0) (.slice aA (s.hints.length + b.hs.length) capA) (.slice aB (s.cons.length + b.cs.length) capB) ⟨s.ins, s.outs, s.hints ++ b.hs, s.cons ++ b.cs⟩ :=
    ⟨rfl, fi, _, _, _, fun k q => .inl q, fun k q => .inr (.inl q), fun k q => .inr (.inr q), fun k q => by
      rcases q with q | q | q
      · omega
      · have := KN.out k q; omega
      · have := KX.out k q; omega, fun k q r => by have := KN.out k r; omega, fun k q r => by have := KX.out k r; omega, fun k q r => by
      rcases KN.out k q with a1 | a1
      · have := KX.out k r; omega
      · rcases KX.out k r with a2 | a2 | a2
        · omega
        · omega
        · exact (Q3.out k a1.2).2 a2.2, rO, rN, rX⟩
  clear rN rX rO GN6 GX6 O06 eLh eLc
  obtain ⟨s0, s1, s2, s3⟩ := CB6
  obtain ⟨r0, r1, r2, r3⟩ := id BR6
  obtain ⟨v0, v1, v2, v3⟩ := FR6
  have lA : w2.heap.size < w6.heap.size := by omega
  have lB : w.heap.size < w6.heap.size := by omega
  go_wp2_with fail
  obtain ⟨t0, t1, t2, t3⟩ := BR6.copied (.int .i64 s.ins) (.slice x0 s.outs.length k0) (.slice aA (s.hints.length + b.hs.length) capA) (.slice aB (s.cons.length + b.cs.length) capB)
  exact bodyPost_ret (v := .tuple #[.agg #[.int .i64 s.ins, .slice x0 s.outs.length k0, .slice aA (s.hints.length + b.hs.length) capA, .slice aB (s.cons.length + b.cs.length) capB], .bool true]) (by simp [results, Try.results43, go_sem, t0, t1, t2, t3]) rfl (RetS.of HK.out HS.out (by (repeat (with_reducible first | exact bR _ _ | assumption | refine bD ?_ | refine bN ?_ _ | refine bA ?_ _ | refine bS ?_ _))) (OW.agree (sameF_sets _ _ _ _ _ (fun q => by
      rcases q with q | q | q
      · omega
      · have := KN.out _ q; omega
      · have := KX.out _ q; omega)) (by simp)) (fun k q => by
      rcases q with q | q | q
      · exact .inr (by omega)
      · rcases KN.out k q with a1 | a1
        · exact .inr (by omega)
        · exact .inl (Q1.out k (.inr (.inl a1.2))).1
      · rcases KX.out k q with a1 | a1 | a1
        · exact .inr (by omega)
        · exact .inr (by omega)
        · exact .inl (Q1.out k (.inr (.inr (.inr a1.2)))).1))
end Go.Proofs.Ytcenijdaacbgpaa.L

/- A system extended by what a function literal adds: the parts that all results share. -/
namespace Go.Proofs.Ytcenijdaacbgpaa.L
open Go.RowKit Go.Proofs.Ytcenijdaacbgpaa.S
set_option linter.unusedVariables false
set_option linter.unusedSimpArgs false

/-- The combinations in a row that a caller has made. -/
def ArgsL (w : World) (ab : Nat) (ls : List (List T)) : Prop := ab < w.heap.size ∧ ∀ j (hj : j < ls.length), ∃ u, w.cell? ⟨ab, j, none⟩ = some u ∧ Terms false 0 w.heap.size w u ls[j]
theorem ArgsL.keep {w w' : World} {ab : Nat} {ls : List (List T)} (h : ArgsL w ab ls) (b : Below w.heap.size w w') : ArgsL w' ab ls :=
  ⟨by have := b.size; have := h.1; omega, fun j hj => by obtain ⟨u, c, t⟩ := h.2 j hj; exact ⟨u, cell_keep b c, (t.keep b (Nat.le_refl _)).mono (Nat.le_refl _) b.size⟩⟩
def mayL (s : SysC) (ls : List (List T)) : Bool := sysOk s && ls.all (linW (varsN s))
def sys0 : SysC := ⟨0, [], [], []⟩
theorem RowF.nil {α : Type} (E : FShape α) (F : Nat → Prop) (w : World) : RowF E F w (.slice none 0 0) [] := ⟨none, 0, rfl, Nat.zero_le _, by omega, .inl rfl⟩
theorem SysF.zero (w : World) : SysF (fun _ => False) w (.int .i64 0) (.slice none 0 0) (.slice none 0 0) (.slice none 0 0) sys0 :=
  ⟨rfl, by show Fits 0; unfold Fits; omega, fun _ => False, fun _ => False, fun _ => False, fun _ h => h, fun _ h => h, fun _ h => h, fun _ h => h.elim, fun _ h => h.elim, fun _ h => h.elim, fun _ h => h.elim, RowF.nil _ _ _, RowF.nil _ _ _, RowF.nil _ _ _⟩
theorem Bld.start {base g : Nat} {gv : Gv} {s : SysC} {w : World} (hb : base ≤ g) (hg : g < w.heap.size) (h4 : Box4 w g (.int .i64 s.ins) (.slice gv.ao s.outs.length gv.ko) (.slice gv.ah s.hints.length gv.kh) (.slice gv.ac s.cons.length gv.kc)) (fr : ∀ j, w.frozen? ⟨g, j, none⟩ = false)
    (c4 : w.cell? ⟨g, 4, none⟩ = some (.slice none 0 0)) (c5 : w.cell? ⟨g, 5, none⟩ = some (.slice none 0 0)) (c6 : w.cell? ⟨g, 6, none⟩ = some (.int .i64 0)) : Bld base g gv s ⟨[], [], 0⟩ (fun k => k = g) w :=
  ⟨hb, rfl, fun k q => by subst q; exact ⟨hb, hg⟩, h4, fr, Nat.le_refl _, _, _, c4, c5, by simpa using c6, fun _ => False, fun _ => False, fun _ => False, fun _ => False, GrowF.nil, GrowF.nil, fun _ q => by simp at q, fun _ q => q.elim, fun _ q => q.elim, fun _ q => q.elim⟩
/-- The answer: a system and terms, both new and apart. -/
def ExtL (ok : Bool) (r : SysC) (v : List T) (w : World) (e : Ending) (w' : World) : Prop :=
  ∃ ui uo uh uc u F G, e = .returned (.tuple #[.agg #[ui, uo, uh, uc], .agg #[u], .bool ok]) ∧ Below w.heap.size w w' ∧ SysF F w' ui uo uh uc r ∧ TermsF true G w' u v ∧ (∀ k, F k → w.heap.size ≤ k) ∧ (∀ k, G k → w.heap.size ≤ k ∧ k < w'.heap.size ∧ ¬ F k)
theorem ExtL.of {ok ok' : Bool} {r r' : SysC} {v v' : List T} {w w' : World} {ui uo uh uc u : Value} {F G : Nat → Prop} (e1 : ok' = ok) (e2 : r' = r) (e3 : v' = v) (h1 : Below w.heap.size w w') (h2 : SysF F w' ui uo uh uc r) (h3 : TermsF true G w' u v) (h4 : ∀ k, F k → w.heap.size ≤ k) (h5 : ∀ k, G k → w.heap.size ≤ k ∧ k < w'.heap.size ∧ ¬ F k) :
    ExtL ok' r' v' w (.returned (.tuple #[.agg #[ui, uo, uh, uc], .agg #[u], .bool ok])) w' := by
  subst e1 e2 e3; exact ⟨ui, uo, uh, uc, u, F, G, rfl, h1, h2, h3, h4, h5⟩
/-- The answer: a system alone. -/
def ExtB (ok : Bool) (r : SysC) (w : World) (e : Ending) (w' : World) : Prop :=
  ∃ ui uo uh uc F, e = .returned (.tuple #[.agg #[ui, uo, uh, uc], .bool ok, .bool ok]) ∧ Below w.heap.size w w' ∧ SysF F w' ui uo uh uc r ∧ (∀ k, F k → w.heap.size ≤ k)
theorem ExtB.of {ok ok' : Bool} {r r' : SysC} {w w' : World} {ui uo uh uc : Value} {F : Nat → Prop} (e1 : ok' = ok) (e2 : r' = r) (h1 : Below w.heap.size w w') (h2 : SysF F w' ui uo uh uc r) (h4 : ∀ k, F k → w.heap.size ≤ k) :
    ExtB ok' r' w (.returned (.tuple #[.agg #[ui, uo, uh, uc], .bool ok, .bool ok])) w' := by
  subst e1 e2; exact ⟨ui, uo, uh, uc, F, rfl, h1, h2, h4⟩
theorem Box4.copied5 {w : World} {b b' : Nat} {v0 v1 v2 v3 : Value} (h : Box4 w b v0 v1 v2 v3) (hne : b' ≠ b) (u0 u1 u2 u3 u : Value) : Box4 (((((w.setCell ⟨b, 0, none⟩ u0).setCell ⟨b, 1, none⟩ u1).setCell ⟨b, 2, none⟩ u2).setCell ⟨b, 3, none⟩ u3).setCell ⟨b', 0, none⟩ u) b u0 u1 u2 u3 := by
  obtain ⟨h0, h1, h2, h3⟩ := h.copied u0 u1 u2 u3
  have n : ∀ j, (⟨b', 0, none⟩ : Addr) ≠ ⟨b, j, none⟩ := fun j e => hne (congrArg Addr.block e)
  refine ⟨?_, ?_, ?_, ?_⟩
  · rw [World.cell?_setCell_other _ _ _ _ (n 0)]; exact h0
  · rw [World.cell?_setCell_other _ _ _ _ (n 1)]; exact h1
  · rw [World.cell?_setCell_other _ _ _ _ (n 2)]; exact h2
  · rw [World.cell?_setCell_other _ _ _ _ (n 3)]; exact h3
theorem cell_copied5 {w : World} {b b' : Nat} {v' : Value} (c : w.cell? ⟨b', 0, none⟩ = some v') (hne : b' ≠ b) (u0 u1 u2 u3 u : Value) : (((((w.setCell ⟨b, 0, none⟩ u0).setCell ⟨b, 1, none⟩ u1).setCell ⟨b, 2, none⟩ u2).setCell ⟨b, 3, none⟩ u3).setCell ⟨b', 0, none⟩ u).cell? ⟨b', 0, none⟩ = some u := by
  have n : ∀ j, (⟨b, j, none⟩ : Addr) ≠ ⟨b', 0, none⟩ := fun j e => hne (congrArg Addr.block e).symm
  refine World.cell?_setCell_same _ _ _ (u := v') ?_
  rw [World.cell?_setCell_other _ _ _ _ (n 3), World.cell?_setCell_other _ _ _ _ (n 2), World.cell?_setCell_other _ _ _ _ (n 1), World.cell?_setCell_other _ _ _ _ (n 0)]; exact c
theorem sameF_sets5 {F : Nat → Prop} {b b' : Nat} (w : World) (u0 u1 u2 u3 u : Value) (hb : ¬ F b) (hb' : ¬ F b') : SameF F w (((((w.setCell ⟨b, 0, none⟩ u0).setCell ⟨b, 1, none⟩ u1).setCell ⟨b, 2, none⟩ u2).setCell ⟨b, 3, none⟩ u3).setCell ⟨b', 0, none⟩ u) := fun k hk => by
  have hne : k ≠ b' := fun e => hb' (e ▸ hk)
  rw [Below.heap_setCell _ _ _ _ hne]; exact sameF_sets w u0 u1 u2 u3 hb k hk
theorem cell_drew {w : World} {p : Addr} {x : Value} (h : w.cell? p = some x) : w.drew.cell? p = some x := h
theorem cell_other1 {w : World} {b j c i : Nat} {x u : Value} (hne : b ≠ c) (h : w.cell? ⟨c, i, none⟩ = some x) : (w.setCell ⟨b, j, none⟩ u).cell? ⟨c, i, none⟩ = some x :=
  (World.cell?_setCell_other _ _ _ _ (fun e => hne (congrArg Addr.block e))).trans h
theorem SysF.lim {F : Nat → Prop} {w : World} {vi vo vh vc : Value} {s : SysC} (t : SysF F w vi vo vh vc s) : ∀ k, F k → k < w.heap.size := t.2.2.choose_spec.choose_spec.choose_spec.2.2.2.1
/-- What the variables of 'extended' hold while the arguments are looked at. -/
def InE (w wr : World) (s : SysC) (ao : Option Addr) (ko : Nat) (ah : Option Addr) (kh : Nat) (ac : Option Addr) (kc : Nat) : Prop :=
  Below w.heap.size w wr ∧ w.heap.size + 4 ≤ wr.heap.size ∧ Box4 wr w.heap.size (.int .i64 s.ins) (.slice ao s.outs.length ko) (.slice ah s.hints.length kh) (.slice ac s.cons.length kc) ∧ Box4 wr (w.heap.size + 1) (.int .i64 0) (.slice none 0 0) (.slice none 0 0) (.slice none 0 0) ∧ Free4 wr (w.heap.size + 1) ∧
    wr.cell? ⟨w.heap.size + 1 + 1, 0, none⟩ = some (.slice none 0 0) ∧ wr.frozen? ⟨w.heap.size + 1 + 1, 0, none⟩ = false ∧ wr.cell? ⟨w.heap.size + 1 + 1 + 1, 0, none⟩ = some (.slice none 0 0)
theorem InE.keepB {w wr w' : World} {s : SysC} {B : Nat} {ao : Option Addr} {ko : Nat} {ah : Option Addr} {kh : Nat} {ac : Option Addr} {kc : Nat} (h : InE w wr s ao ko ah kh ac kc) (b : Below B wr w') (hB : w.heap.size + 4 ≤ B) : InE w w' s ao ko ah kh ac kc := by
  obtain ⟨h1, h2, h3, h4, h5, h6, h7, h8⟩ := h
  have := b.size
  refine ⟨h1.trans (b.mono (by omega)), by omega, h3.keep b (by omega), h4.keep b (by omega), h5.keep b (by omega), ?_, ?_, ?_⟩
  · rw [World.cell?_of_block (a := ⟨w.heap.size + 1 + 1, 0, none⟩) (b.block _ (show w.heap.size + 1 + 1 < B by omega))]; exact h6
  · rw [World.frozen?_of_block (a := ⟨w.heap.size + 1 + 1, 0, none⟩) (b.block _ (show w.heap.size + 1 + 1 < B by omega))]; exact h7
  · rw [World.cell?_of_block (a := ⟨w.heap.size + 1 + 1 + 1, 0, none⟩) (b.block _ (show w.heap.size + 1 + 1 + 1 < B by omega))]; exact h8
theorem InE.keep {w wr w' : World} {s : SysC} {ao : Option Addr} {ko : Nat} {ah : Option Addr} {kh : Nat} {ac : Option Addr} {kc : Nat} (h : InE w wr s ao ko ah kh ac kc) (b : Below wr.heap.size wr w') : InE w w' s ao ko ah kh ac kc := h.keepB b h.2.1
theorem allL_stop {s : SysC} {ls : List (List T)} {k : Nat} (hk : k < ls.length) (h : linW (1 + s.ins + (s.hints.length : Int)) ls[k] = false) : mayL s ls = false := by
  have h' : linW (varsN s) ls[k] = false := h
  unfold mayL
  cases ha : ls.all (linW (varsN s))
  · simp
  · have := (List.all_eq_true.1 ha) _ (List.getElem_mem hk); rw [h'] at this; cases this
theorem allL_done {s : SysC} {ls : List (List T)} (hs : sysOk s = true) (h : ∀ j (hj : j < ls.length), linW (1 + s.ins + (s.hints.length : Int)) ls[j] = true) : mayL s ls = true := by
  unfold mayL
  rw [hs, Bool.true_and, List.all_eq_true]
  intro x hx
  obtain ⟨j, hj, rfl⟩ := List.mem_iff_getElem.1 hx
  exact h j hj
end Go.Proofs.Ytcenijdaacbgpaa.L
