/- Copies of slices of combinations, hints, constraints, and of systems. -/
import Derived.Test.YteekpdlkdpkegaaSysR
namespace Go.Proofs.Yteekpdlkdpkegaa.L
open Go.RowKit Go.Proofs.Yteekpdlkdpkegaa.S
set_option linter.unusedVariables false
set_option linter.unusedSimpArgs false

/-- The copy behind k rounds. -/
def cp {α : Type} (d : α) (xs : List α) (k : Nat) : List α := xs.take k ++ List.replicate (xs.length - k) d
theorem cp_length {α : Type} (d : α) (xs : List α) (k : Nat) (h : k ≤ xs.length) : (cp d xs k).length = xs.length := by unfold cp; simp; omega
theorem cp_zero {α : Type} (d : α) (xs : List α) : cp d xs 0 = List.replicate xs.length d := by simp [cp]
theorem cp_end {α : Type} (d : α) (xs : List α) : cp d xs xs.length = xs := by simp [cp]
theorem cp_set {α : Type} (d : α) (xs : List α) (k : Nat) (h : k < xs.length) : (cp d xs k).set k xs[k] = cp d xs (k + 1) := by
  have hl : (xs.take k).length = k := by simp; omega
  unfold cp
  rw [List.set_append_right _ _ (by omega), hl, Nat.sub_self, show xs.length - k = xs.length - (k + 1) + 1 from by omega, List.replicate_succ, List.set_cons_zero, take_step (List.getElem?_eq_getElem h), List.append_assoc]
  rfl

theorem made_rep (zs : List Value) (n : Nat) : (madeCells zs.toArray (n * zs.length)).toList = (List.replicate n zs).flatten := by
  apply List.ext_getElem?
  intro i
  by_cases hz : zs.length = 0
  · have : zs = [] := List.eq_nil_of_length_eq_zero hz
    subst this
    simp [madeCells]
  · by_cases hi : i < n * zs.length
    · have hlt : i / zs.length < n := (Nat.div_lt_iff_lt_mul (by omega)).2 hi
      have hm : i % zs.length < zs.length := Nat.mod_lt _ (by omega)
      have e := Shape.flat_at (d := zs.length) (css := List.replicate n zs) (fun c hc => by rw [(List.mem_replicate.1 hc).2]) (j := i / zs.length) (f := i % zs.length) (cs := zs) (by rw [List.getElem?_replicate, if_pos hlt]) hm
      rw [show i / zs.length * zs.length + i % zs.length = i from by rw [Nat.mul_comm]; exact Nat.div_add_mod i _] at e
      rw [e]
      simp [madeCells, hi, List.getElem?_eq_getElem hm]
    · have hl := Shape.flat_length (d := zs.length) (css := List.replicate n zs) (fun c hc => by rw [(List.mem_replicate.1 hc).2])
      rw [List.getElem?_eq_none (by simp [madeCells]; omega), List.getElem?_eq_none (by rw [hl]; simp; omega)]

namespace Shape
variable {α : Type} {E : Shape α}
/-- A row of zero values just made. -/
theorem row_made {w : World} {base n : Nat} {e : TypeId} {v : Value} {zs : List Value} {d : α} (hz : zs.length = E.wd) (hd : ∀ l h w, E.rep true l h w zs d)
    (hr : w.ownsRow base e E.wd v n (madeCells zs.toArray (n * zs.length)).toList) (hb : base ≤ w.heap.size) : (row E).rep true base w.heap.size w [v] (List.replicate n d) := by
  rw [made_rep] at hr
  refine row_owns (css := List.replicate n zs) (by simpa using hr) (by simp) (fun c hc => by rw [(List.mem_replicate.1 hc).2, hz]) (Nat.le_refl _) (Nat.le_refl _) (fun _ => w.heap.size) (fun _ => w.heap.size) ⟨fun g o m cap hv j hj => .inl ?_, fun _ _ _ _ => .inl (Nat.le_refl _)⟩ (fun j x cs hx hc => ?_)
  · rcases hr.2 with ⟨rfl, _⟩ | ⟨g', cap', cur, rfl, _⟩
    · cases hv
    · cases hv; exact (hr.lt _ rfl).2
  · rw [List.getElem?_replicate] at hx hc
    split at hx
    · rw [if_pos ‹_›] at hc
      simp only [Option.some.injEq] at hx hc
      subst hx; subst hc
      exact ⟨hb, Nat.le_refl _, hd _ _ _⟩
    · cases hx
theorem Chg.wide {b s n L H L' H' : Nat} {w w' : World} (c : Chg b s n L H w w') (h1 : L' ≤ L) (h2 : H ≤ H') : Chg b s n L' H' w w' := ⟨c.size, fun k a1 a2 a3 => c.block k a1 a2 (by omega), c.cell, c.frozen⟩
/-- An element of a row of one's own is replaced by one that lies in new memory. -/
theorem row_fill {l h : Nat} {w : World} {b n cap : Nat} {xs : List α} (t : (row E).rep true l h w [.slice (some ⟨b, 0, none⟩) n cap] xs) {j : Nat} (hj : j < xs.length) (hh : h ≤ w.heap.size) :
    b < h ∧ (∃ cs : List Value, cs.length = E.wd ∧ ∀ f c, cs[f]? = some c → w.cell? ⟨b, j * E.wd + f, none⟩ = some c) ∧ (∀ i, w.frozen? ⟨b, i, none⟩ = false) ∧
      ∀ w' cs' x' L' h', Chg b (j * E.wd) E.wd L' L' w w' → (∀ f c, cs'[f]? = some c → w'.cell? ⟨b, j * E.wd + f, none⟩ = some c) → E.rep true L' h' w cs' x' → Same L' h' w w' → h ≤ L' → h ≤ h' →
        (row E).rep true l h' w' [.slice (some ⟨b, 0, none⟩) n cap] (xs.set j x') := by
  obtain ⟨b', off, cs, L, H, e, h1, h2, h3, h4, hc, hr, ho⟩ := row_focus t hj
  simp only [Option.some.injEq, Addr.mk.injEq, and_true] at e
  obtain ⟨rfl, rfl⟩ := e
  obtain ⟨o1, o2, o3⟩ := ho rfl
  refine ⟨h2, ⟨cs, E.len hr, fun f c hf => by have := hc f c hf; rwa [Nat.zero_add] at this⟩, o2, fun w' cs' x' L' h' hch hcs hrep hsame hL hhh => ?_⟩
  refine o3 w' cs' x' L' h' h' ?_ (fun f c hf => by rw [Nat.zero_add]; exact hcs f c hf) (E.agree hrep hsame) hh hhh (.inr ⟨hL, Nat.le_refl _⟩)
  rw [Nat.zero_add]
  exact ⟨hch.size, fun k a1 a2 a3 => hch.block k a1 a2 (by omega), hch.cell, hch.frozen⟩
end Shape

theorem same_set {l h b o : Nat} {w : World} {u : Value} (hb : b < l) : Same l h w (w.setCell ⟨b, o, none⟩ u) := fun k h1 h2 => Below.heap_setCell _ _ _ _ (by simp; omega)
theorem Same.trans {l h : Nat} {a b c : World} (s : Same l h a b) (t : Same l h b c) : Same l h a c := fun k h1 h2 => (t k h1 h2).trans (s k h1 h2)

theorem linInfo : (Try.prog.info? 39).map (fun i => (i.zero, i.size, i.bytes)) = some (some (.agg #[.slice none 0 0]), 1, 24) := by kernel_rfl

theorem LinS.made {w : World} {base n : Nat} {v : Value} (hr : w.ownsRow base 39 1 v n (madeCells #[.slice none 0 0] (n * 1)).toList) (hb : base ≤ w.heap.size) : LinS true base w.heap.size w v (List.replicate n []) :=
  Shape.row_made (E := Shape.lin) (zs := [.slice none 0 0]) (d := ([] : List T)) rfl (fun l h w => ⟨_, rfl, Terms.nil _ _ _ _⟩) hr hb
theorem LinS.fill {l h : Nat} {w : World} {b n cap : Nat} {xs : List (List T)} (t : LinS true l h w (.slice (some ⟨b, 0, none⟩) n cap) xs) {j : Nat} (hj : j < xs.length) (hh : h ≤ w.heap.size) :
    (∃ c, w.cell? ⟨b, j, none⟩ = some c) ∧ w.frozen? ⟨b, j, none⟩ = false ∧ ∀ u ts L' h', Terms true L' h' w u ts → h ≤ L' → h ≤ h' → LinS true l h' (w.setCell ⟨b, j, none⟩ u) (.slice (some ⟨b, 0, none⟩) n cap) (xs.set j ts) := by
  obtain ⟨hb, ⟨cs, hl, hc⟩, hf, hu⟩ := Shape.row_fill (E := Shape.lin) t hj hh
  match cs, hl with
  | [c0], _ =>
    have c := hc 0 c0 rfl
    simp only [show Shape.lin.wd = 1 from rfl, Nat.mul_one, Nat.add_zero] at c hu
    refine ⟨⟨c0, c⟩, hf j, fun u ts L' h' tu hL hhh => ?_⟩
    refine hu _ [u] ts L' h' ((Shape.Chg.refl _ _ _ _ _ _).setCell (Nat.le_refl _) (by omega) u) (fun f x hx => ?_) ⟨u, rfl, tu⟩ (same_set (by omega)) hL hhh
    match f, hx with
    | 0, hx => simp only [List.getElem?_cons_zero, Option.some.injEq] at hx; subst hx; exact World.cell?_setCell_same _ _ _ c

set_option maxRecDepth 100000 in
set_option maxHeartbeats 1600000 in
theorem toLinS_any (o l h v) (xs : List (List T)) (w : World) (t : LinS o l h w v xs) (hw : h ≤ w.heap.size) (hlen : xs.length ≤ 1048576) (hel : ∀ t ∈ xs, t.length ≤ 1048576) :
    Calls Try.prog 42 #[v] w fun e w' => ∃ u, e = .returned u ∧ Below w.heap.size w w' ∧ LinS true w.heap.size w'.heap.size w' u xs := by
  obtain ⟨a, ca, rfl, la, ba⟩ := t.shape
  obtain ⟨i0, hi, hz0, hz1, hz2⟩ := info_parts linInfo
  have HE := Lib.hid hel
  clear hel
  go_enter Try.func42, Try.ntmps42
  go_wp2_with (refine wpList_make_full _ rfl _ _ 32 rfl w.heap.size 39 i0 (.agg #[.slice none 0 0]) 1 Try.underlying32 hi hz0 hz1 .i64 .i64 _ _ xs.length rfl rfl rfl rfl (by rw [hz2]; omega) (by unfold maxLen; omega) (Nat.le_refl _) ?_; intro w1 hown hgr)
  have be1 : Below w.heap.size w w1 := (Below.refl _ _).grown hgr (Nat.le_refl _) (fun k e => by simp at e)
  have m1 := LinS.made hown be1.size
  rw [← cp_zero] at m1
  clear hown hgr hi hz0 hz1 hz2
  go_loopw [4] (fun i wr => ∃ k : Nat, k ≤ xs.length ∧ i = .int .i64 k ∧ Below w.heap.size w wr ∧ LinS true w.heap.size wr.heap.size wr (Value.slice (some ⟨w.heap.size, 0, none⟩) xs.length xs.length) (cp [] xs k)) (fun i _ => xs.length - (intOf i).toNat)
  case atStart => exact ⟨0, Nat.zero_le _, rfl, be1, m1⟩
  case round =>
    obtain ⟨k, hk, rfl, be, hm⟩ := hrel
    clear be1 m1
    have zb := be.size
    by_cases hlt : k < xs.length
    · obtain ⟨b, off, u, rfl, l1, m1, c1, tu⟩ := (t.keep be hw).at hlt
      obtain ⟨x, kx, rfl, lx, bx⟩ := tu.shape
      have hx1 := HE.out _ (List.getElem_mem hlt)
      go_wp2_with fail
      refine (toLin_any o l h _ xs[k] _ tu (by omega) hx1).mono ?_; rintro e w2 ⟨u2, rfl, f2, r2⟩
      obtain ⟨y, ky, rfl, ly, bly⟩ := r2.shape
      have be2 := be.trans (f2.mono be.size)
      have z2 := f2.size
      have hm2 := hm.keep f2 (Nat.le_refl _)
      have hcl := cp_length [] xs k hk
      obtain ⟨⟨cz, cw⟩, fw, st⟩ := hm2.fill (j := k) (by omega) z2
      have st2 := st _ _ _ _ r2 (Nat.le_refl _) z2
      rw [cp_set [] xs k hlt] at st2
      have be4 := be2.setCell (p := ⟨w.heap.size, k, none⟩) (Nat.le_refl _) (.slice y xs[k].length ky)
      clear hm hm2 st r2 be be2 hcl hx1
      go_wp2_with fail
      go_roundw
      case rel => exact ⟨k + 1, by omega, by go_num, be4, by simpa [World.setCell] using st2⟩
      case measure => simp [intOf]; omega
    · obtain rfl : k = xs.length := by omega
      rw [cp_end] at hm
      go_wp2_with fail
      go_ret
      exact ⟨_, rfl, be, hm⟩
end Go.Proofs.Yteekpdlkdpkegaa.L
