/- combine: the terms of a plus k times b, collected into a row of its own. -/
import Derived.Test.YteekpdlkdpkegaaIter
namespace Go.Proofs.Yteekpdlkdpkegaa.L
open Go.RowKit Go.Shelf Go.Proofs.Yteekpdlkdpkegaa.S
set_option linter.unusedVariables false
set_option linter.unusedSimpArgs false
attribute [local go_sem] Oper.semAt_some

/-- a plus k times b; nothing where one of the two is not valid. -/
def lcomb (k : Int) (xs ys : List T) : List T := if linOk xs && linOk ys then mrg k xs ys else []

theorem Three.keep {c : Nat} {va vb vk : Value} {W W' : World} {row : Option Nat} (h : Three c va vb vk W) (hg : W.grownBy W' row) (h0 : some c ≠ row) (h1 : some (c + 1) ≠ row) (h2 : some (c + 2) ≠ row) : Three c va vb vk W' :=
  ⟨h.1.kept hg h0, h.2.1.kept hg h1, h.2.2.kept hg h2⟩
theorem Three.putObj {c : Nat} {va vb vk : Value} {W : World} (h : Three c va vb vk W) (l : Nat) (o o' : Obj) (hl : W.heap[l]? = some o) (ho : o.isCells = false) : Three c va vb vk (W.putObj l o') := by
  have key : ∀ {B : Nat} {t : TypeId} {v : Value}, Boxed W B t v → some B ≠ some l := fun hb e => by
    cases e
    rw [show W.heap[_]? = _ from hb] at hl
    cases hl; cases ho
  exact h.keep (grownBy_putObj' W l o') (key h.1) (key h.2.1) (key h.2.2)

theorem iter_stops (n : Nat) (hn : 1 ≤ n) (c n₀ : Nat) (a b : Option Addr) (ka kb : Nat) (o1 o2 : Bool) (l1 h1 l2 h2 : Nat) (xs ys : List T) (k : Int) (k0 : 0 ≤ k) (k1 : k < 2147483647) (hx : linOk xs = true) (hy : linOk ys = true)
    (hh1 : h1 ≤ n₀) (hh2 : h2 ≤ n₀) (w : World) (hw : n₀ ≤ w.heap.size) (hc : c + 2 < w.heap.size)
    (h3 : Three c (.slice a xs.length ka) (.slice b ys.length kb) (.int .i64 k) w) (t1 : Terms o1 l1 h1 w (.slice a xs.length ka) xs) (t2 : Terms o2 l2 h2 w (.slice b ys.length kb) ys) :
    SeqStopsK Fence.wide n Try.prog 162 #[.pointer (some ⟨c, 0, none⟩), .pointer (some ⟨c + 1, 0, none⟩), .pointer (some ⟨c + 2, 0, none⟩)] encT (Kp n₀ c (.slice a xs.length ka) (.slice b ys.length kb) (.int .i64 k)) (fun zs => zs = mrg k xs ys) (fun pre => pre <+: mrg k xs ys) (xs.length + ys.length) w :=
  fun l J Jx W hb hJ hJx hY h0 => iter_in n hn l c n₀ a b ka kb o1 o2 l1 h1 l2 h2 xs ys k k0 k1 hx hy hh1 hh2 J Jx hY W (Nat.le_trans hw hb.size) hJ
    (h3.keep (grown_of_below hb) (by simp) (by simp) (by simp)) (t1.keep hb (Nat.le_trans hh1 hw)) (t2.keep hb (Nat.le_trans hh2 hw)) h0


/-- What the collecting has come to: the row so far in its box; the result's own box untouched. -/
def Coll (w : World) (B R : Nat) (pre : List T) (W : World) : Prop :=
  ((∃ v, Boxed W B 39 v ∧ W.ownsRow w.heap.size 141 2 v pre.length (cells pre) ∧ True) ∧ Boxed W R 39 (.slice none 0 0)) ∧ Below w.heap.size w W
theorem coll_own (w : World) (B R N : Nat) (hN : w.heap.size ≤ N) : OwnFrom N (Coll w B R) :=
  OwnFrom.and (OwnFrom.and (Own.from (holdsRow_own w.heap.size B 39 141 2 (fun pre : List T => pre.length) (fun pre => cells pre) (fun _ _ => True)) _) (Own.from (boxed_own _ _ _) _)) (ownFrom_below (Nat.le_refl _) hN)

/-- A round's variable. -/
def Var (N : Nat) (x : T) (Bx : Nat) (W : World) : Prop := N ≤ Bx ∧ W.heap[Bx]? = some (.cells #[.int .i64 x.1, .int .i64 x.2] 141 (0, 0))
theorem var_own (N : Nat) (x : T) (Bx M : Nat) : OwnFrom M (fun (_ : Unit) W => Var N x Bx W) := fun s X Y row hs hg hrow => by
  obtain ⟨h1, h2⟩ := hs
  have hlt : Bx < X.heap.size := (Array.getElem?_eq_some_iff.1 h2).1
  refine ⟨h1, (hg.block Bx hlt (fun e => ?_)).trans h2⟩
  obtain ⟨_, o, ho, hc⟩ := hrow Bx e.symm
  rw [h2] at ho
  cases ho; cases hc
theorem Var.cells {N : Nat} {x : T} {Bx : Nat} {W : World} (h : Var N x Bx W) : W.cell? ⟨Bx, 0, none⟩ = some (.int .i64 x.1) ∧ W.cell? ⟨Bx, 1, none⟩ = some (.int .i64 x.2) := by
  obtain ⟨_, h2⟩ := h
  exact ⟨by simp [World.cell?, h2], by simp [World.cell?, h2]⟩

theorem box_appended {W w1 : World} {n₀ B B' : Nat} {t e : TypeId} {size k : Nat} {u v x : Value} {xs : List Value} {tmp : Obj} (h : Boxed W B' t u) (hte : t ≠ e) (hrow : W.ownsRow n₀ e size v k xs) (hgrow : (W.alloc tmp).grownBy w1 v.ownBlock) (hne : B' ≠ B) : Boxed (w1.setCell ⟨B, 0, none⟩ x) B' t u :=
  ((h.alloc tmp).kept hgrow (h.not_row hte hrow)).other hne x
theorem cells_two_new (w : World) (x y : Value) (t : TypeId) : ∀ j u, [x, y][j]? = some u → (w.alloc (.cells #[x, y] t)).cell? ((⟨w.heap.size, 0, none⟩ : Addr).add j) = some u := by
  intro j u hj
  rw [Go.WideShapes.add_plain]
  match j, hj with
  | 0, hj => simp at hj; subst hj; rw [World.cell?_alloc_at _ _ _ _ rfl]; rfl
  | 1, hj => simp at hj; subst hj; rw [World.cell?_alloc_at _ _ _ _ rfl]; rfl

set_option maxRecDepth 100000 in
set_option maxHeartbeats 3200000 in
theorem combine_yes (o1 o2 : Bool) (l1 h1 l2 h2 : Nat) (va vb : Value) (xs ys : List T) (k : Int) (w : World) (t1 : Terms o1 l1 h1 w va xs) (hw1 : h1 ≤ w.heap.size) (t2 : Terms o2 l2 h2 w vb ys) (hw2 : h2 ≤ w.heap.size) (k0 : 0 ≤ k) (k1 : k < 2147483647) (hx : linOk xs = true) (hy : linOk ys = true) :
    Calls Try.prog 96 #[.agg #[va], .agg #[vb], .int .i64 k] w fun e w' => ∃ u, e = .returned (.tuple #[.agg #[u], .bool true]) ∧ Below w.heap.size w w' ∧ Terms true w.heap.size w'.heap.size w' u (mrg k xs ys) := by
  obtain ⟨a, ka, rfl, la, ba⟩ := t1.shape
  obtain ⟨b, kb, rfl, lb, bb⟩ := t2.shape
  obtain ⟨i0, hi, hz0, hz1, hz2⟩ := info_parts termInfo
  have nx := linOk_length hx
  have ny := linOk_length hy
  refine callsIn_wide.1 (?_ : CallsIn Fence.wide 5 _ _ _ _ _)
  refine callsIn_of_wp_marks Try.func96 rfl trivial ?_ rfl
  simp only [Try.ntmps96, List.size_toArray, List.length_cons, List.length_nil, Nat.reduceAdd, Nat.reduceSub, Array.replicate_succ, Array.replicate_zero, List.push_toArray, List.append_toArray, List.nil_append, List.cons_append]
  refine wpIn_wide.2 ?_
  go_wp2_with fail
  refine name_call fun w1 hw1' => ?_
  have b1 : Below w.heap.size w w1 := by rw [hw1']; (repeat (first | with_reducible exact Below.refl _ _ | with_reducible assumption | with_reducible refine Below.drew ?_ | with_reducible refine bdrewN ?_ _ | ((with_reducible refine balloc ?_ ?_ _); (focus (first | with_reducible exact Nat.le_refl _ | (simp; done) | omega | (simp; omega) | exact Nat.le_refl _))) | ((with_reducible refine bset ?_ ?_ _); (focus (first | with_reducible exact Nat.le_refl _ | (simp; done) | omega | (simp; omega) | exact Nat.le_refl _)))))
  have z1 : w.heap.size + 3 ≤ w1.heap.size := by rw [hw1']; simp
  have cA1 : w1.cell? ⟨w.heap.size, 0, none⟩ = some (.slice a xs.length ka) := by rw [hw1']; go_simp
  have cB1 : w1.cell? ⟨w.heap.size + 1, 0, none⟩ = some (.slice b ys.length kb) := by rw [hw1']; go_simp
  have cR1 : Boxed w1 (w.heap.size + 1 + 1) 39 (.slice none 0 0) := by
    rw [hw1']
    have := Boxed.new ((w.alloc (.cells #[.slice a xs.length ka] 39)).alloc (.cells #[.slice b ys.length kb] 39)) 39 (.slice none 0 0)
    simpa using this
  clear hw1'
  refine (linOk_impl_yes o1 l1 h1 _ xs w1 (t1.keep b1 hw1) (by omega) hx).mono ?_; rintro e w2 ⟨rfl, f2⟩
  have b2 := b1.trans (f2.mono (by omega))
  have z2 := f2.size
  have cA2 := cell_keep f2 cA1
  have cB2 := cell_keep f2 cB1
  have cR2 := cR1.kept (grown_of_below f2) (fun h => by cases h)
  clear cA1 cB1 cR1
  go_wp2_with fail
  refine (linOk_impl_yes o2 l2 h2 _ ys w2 (t2.keep b2 hw2) (by omega) hy).mono ?_; rintro e w3 ⟨rfl, f3⟩
  have b3 := b2.trans (f3.mono (by omega))
  have z3 := f3.size
  have cA3 := cell_keep f3 cA2
  have cB3 := cell_keep f3 cB2
  have cR3 := cR2.kept (grown_of_below f3) (fun h => by cases h)
  have lA3 : w.heap.size < w3.heap.size := by omega
  have lB3 : w.heap.size + 1 < w3.heap.size := by omega
  clear cA2 cB2 cR2
  go_wp2_with fail
  refine (combined_any a b xs.length ka ys.length kb k _).mono ?_; rintro e w4 ⟨rfl, hw4⟩
  simp only [World.size_alloc] at hw4 ⊢
  have z4 : w4.heap.size = w3.heap.size + 4 := by rw [hw4]; simp
  have b4 : Below w.heap.size w w4 := by rw [hw4]; (repeat (first | with_reducible exact Below.refl _ _ | with_reducible assumption | with_reducible refine Below.drew ?_ | with_reducible refine bdrewN ?_ _ | ((with_reducible refine balloc ?_ ?_ _); (focus (first | with_reducible exact Nat.le_refl _ | (simp; done) | omega | (simp; omega) | exact Nat.le_refl _))) | ((with_reducible refine bset ?_ ?_ _); (focus (first | with_reducible exact Nat.le_refl _ | (simp; done) | omega | (simp; omega) | exact Nat.le_refl _)))))
  have cR4 : Boxed w4 (w.heap.size + 1 + 1) 39 (.slice none 0 0) := by rw [hw4]; exact (((cR3.alloc _).alloc _).alloc _).alloc _
  have cS4 : Boxed w4 w3.heap.size 39 (.slice none 0 0) := by rw [hw4]; exact (((Boxed.new w3 _ _).alloc _).alloc _).alloc _
  have h34 : Three (w3.heap.size + 1) (.slice a xs.length ka) (.slice b ys.length kb) (.int .i64 k) w4 := by
    rw [hw4]
    have e1 := Boxed.new (w3.alloc (.cells #[.slice none 0 0] 39)) 39 (.slice a xs.length ka)
    have e2 := Boxed.new ((w3.alloc (.cells #[.slice none 0 0] 39)).alloc (.cells #[.slice a xs.length ka] 39)) 39 (.slice b ys.length kb)
    have e3 := Boxed.new (((w3.alloc (.cells #[.slice none 0 0] 39)).alloc (.cells #[.slice a xs.length ka] 39)).alloc (.cells #[.slice b ys.length kb] 39)) 111 (.int .i64 k)
    simp only [World.size_alloc] at e1 e2 e3
    exact ⟨(e1.alloc _).alloc _, e2.alloc _, e3⟩
  have t14 := t1.keep b4 hw1
  have t24 := t2.keep b4 hw2
  clear hw4 cA3 cB3 cR3 f2 f3
  go_wp2_with fail
  refine (wpIn_wide (n := 5)).1 ?_
  refine wpIn_rangeFunc_ownH (P := Try.prog) rfl (by omega) (gf := 162) (lb := #[.pointer (some ⟨w3.heap.size + 1, 0, none⟩), .pointer (some ⟨w3.heap.size + 1 + 1, 0, none⟩), .pointer (some ⟨w3.heap.size + 1 + 2, 0, none⟩)]) rfl trivial (enters_of Try.func162 (by kernel_rfl) rfl)
    (iter_stops 4 (by omega) (w3.heap.size + 1) w.heap.size a b ka kb o1 o2 l1 h1 l2 h2 xs ys k k0 k1 hx hy hw1 hw2 w4 (by omega) (by omega) h34 t14 t24)
    (fun h g => ⟨h.1.trans g.1, fun q => g.2 (h.2 q)⟩)
    (fun W l o o' hl ho hc hw => ⟨belowK_b (w := w4) (by omega) W l o o' hl ho hc hw, fun q => q.putObj l o o' ho hc⟩)
    (Below.refl _ _) (fun _ => rfl)
    (Coll w w3.heap.size (w.heap.size + 1 + 1)) (fun _ _ _ => False) (coll_own _ _ _ _ (by omega)) (fun _ _ _ _ _ hs _ _ => hs)
    ⟨⟨⟨_, cS4, World.ownsRow_nil _ _ _ _, trivial⟩, cR4⟩, b4⟩
    (fun x a' W => ∃ Bx, Var 0 x Bx W ∧ a' = { tmps := #[.agg #[.slice a xs.length ka], .agg #[.slice b ys.length kb], .int .i64 k, .pointer (some ⟨w.heap.size, 0, none⟩), .pointer (some ⟨w.heap.size + 1, 0, none⟩), undef, .pointer (some ⟨w.heap.size + 1 + 1, 0, none⟩), .bool false, .pointer (some ⟨w3.heap.size, 0, none⟩), .pointer (some ⟨Bx, 0, none⟩), .agg #[.slice a xs.length ka], .bool true, .bool false, .bool false, .agg #[.slice b ys.length kb], .bool true, .bool false, .bool false, undef, .agg #[.slice a xs.length ka], .agg #[.slice b ys.length kb], .int .i64 k, .func (.func 162) #[] #[.pointer (some ⟨w3.heap.size + 1, 0, none⟩), .pointer (some ⟨w3.heap.size + 1 + 1, 0, none⟩), .pointer (some ⟨w3.heap.size + 1 + 2, 0, none⟩)], .agg #[.int .i64 x.1, .int .i64 x.2], undef, undef, undef, undef, undef, undef, undef], defers := [] })
    (fun x a' _ X Y row hs hg hr => by obtain ⟨Bx, h1, h2⟩ := hs; exact ⟨Bx, var_own 0 x Bx _ () X Y row h1 hg hr, h2⟩)
    ?assign ?body ?done ?stop
  case assign =>
    rintro l pre x W K ⟨⟨⟨v, hv, hrow, -⟩, hR⟩, hB⟩ hK
    simp only [encT]
    gi_wp2
    exact hK _ _ ((KeepsOthers.alloc _ _).from _) ⟨(Below.refl _ W).alloc hB.size _, fun q => ⟨q.1.alloc _, q.2.1.alloc _, q.2.2.alloc _⟩⟩ ⟨⟨⟨v, hv.alloc _, hrow.alloc _, trivial⟩, hR.alloc _⟩, hB.alloc hB.size _⟩ ⟨W.heap.size, ⟨Nat.zero_le _, World.alloc_heap_new W _⟩, rfl⟩
  case body =>
    rintro l pre x a' W hl ⟨r, hr⟩ ⟨⟨⟨v, hv, hrow, -⟩, hR⟩, hB⟩ ⟨Bx, hBx, rfl⟩ hlt
    obtain ⟨c0, c1⟩ := hBx.cells
    have hc := hv.cell
    have hsz := hB.size
    have hlx : Bx < W.heap.size := World.block_lt_of_cell? W _ c0
    gi_wp2_with (gi_at_builtin; refine wpListIn_append_own _ rfl _ _ 37 rfl w.heap.size 141 i0 (.agg #[.int .i64 0, .int .i64 0]) 2 16 Try.underlying37 hi hz0 hz1 hz2 rfl (by decide) _ _ _ rfl (hrow.alloc _) ⟨W.heap.size, 0, none⟩ 1 1 [.int .i64 x.1, .int .i64 x.2] rfl rfl (cells_two_new _ _ _ _) (by simp [Value.oneCell']) (by unfold maxLen; omega) (by omega) (by simp; omega) ?_; intro v' w5 hown' hgrow _; obtain ⟨g', cap', rfl⟩ := ownsRow_succ hown'; obtain ⟨hv1, hv2, hr2, hk2, hb2⟩ := hv.appended (by decide) hrow hB.size (by omega) hown' hgrow; have hc1 := hv1.cell; have hf1 := hv1.frozen)
    refine ⟨hk2.from _, ⟨hb2, fun q => ⟨box_appended q.1 (by decide) hrow hgrow (by omega), box_appended q.2.1 (by decide) hrow hgrow (by omega), box_appended q.2.2 (by decide) hrow hgrow (by omega)⟩⟩, ⟨⟨⟨_, hv2, ?_, trivial⟩, box_appended hR (by decide) hrow hgrow (by omega)⟩, hB.trans hb2⟩⟩
    rw [cells_append]
    simpa [cells] using hr2
  case done =>
    rintro D zs W hD rfl ⟨⟨⟨v, hv, hrow, -⟩, hR⟩, hB⟩ hK
    have ht := Terms.own hrow (linOk_fits (linOk_mrg hx hy))
    obtain ⟨g, cg, rfl, lg, bg⟩ := ht.shape
    have hc := hv.cell
    have hcR := hR.cell
    have hfR := hR.frozen
    have hR2 := hR.set (.slice g (mrg k xs ys).length cg)
    have hK2 := (KeepsOthers.setCell W ⟨w.heap.size + 1 + 1, 0, none⟩ (.slice g (mrg k xs ys).length cg)).same D _ hK rfl
    have r2 := ownsRow_putObj (hrow.kept (grownBy_setCell' W (w.heap.size + 1 + 1) (.slice g (mrg k xs ys).length cg)) (.inr (hR.not_row (by decide) hrow).symm)) (.deferred none) hK2 rfl
    have hR3 := hR2.kept (grownBy_putObj' _ D (.deferred none)) (fun e => by cases e; rw [show (World.heap _)[_]? = _ from hR2] at hK2; cases hK2)
    have b5 := (hB.setCell (p := ⟨w.heap.size + 1 + 1, 0, none⟩) (by simp; omega) (.slice g (mrg k xs ys).length cg)).trans (belowK_b (w := w) (Nat.le_refl _) _ D _ (.deferred none) (by omega) hK2 rfl rfl)
    have t5 := Terms.own r2 (linOk_fits (linOk_mrg hx hy))
    have cR3 := hR3.cell
    clear r2 hR2 hR3
    go_wp2_with fail
    refine ⟨by simp, .inl ⟨_, _, rfl, run_takeDeferred hK2, ?_⟩⟩
    exact ⟨.tuple #[.agg #[.slice g (mrg k xs ys).length cg], .bool true], by simp [results, Try.results96, go_sem, cR3], _, rfl, b5, t5⟩
  case stop =>
    rintro D c pre W _ _ h _
    exact h.elim
end Go.Proofs.Yteekpdlkdpkegaa.L
