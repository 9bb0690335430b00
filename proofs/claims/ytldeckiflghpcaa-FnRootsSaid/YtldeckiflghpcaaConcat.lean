/- slices.Concat of two slices of numbers. -/
import Derived.Test.YtldeckiflghpcaaMixR
import Derived.Lib.AppendZerosOnto
import Derived.Lib.SliceRun
namespace Go.Proofs.Ytldeckiflghpcaa.L
open Go.RowKit Go.Proofs.Ytldeckiflghpcaa.S
set_option linter.unusedVariables false
set_option linter.unusedSimpArgs false

def OwnI (w : World) (e : Ending) (w' : World) : Prop := ∃ u, e = .returned u ∧ Below w.heap.size w w' ∧ w'.ownsRow w.heap.size 3 1 u 0 (iv [])
set_option maxRecDepth 100000 in
set_option maxHeartbeats 1600000 in
theorem growNil_any (n : Nat) (w : World) (hn : n ≤ 1000000000) : Calls Try.prog 54 #[.slice none 0 0, .int .i64 n] w (OwnI w) := by
  have h1 : ¬ ((n : Int) < 0) := by omega
  have h3 : wrap64 ((n : Int) - 0) = (n : Int) := by unfold wrap64; omega
  have h4 : wrap64 (n : Int) = (n : Int) := by unfold wrap64; omega
  by_cases h0 : n = 0
  · subst h0
    go_enter Try.func54, Try.ntmps54
    go_wp2_with fail
    go_ret
    exact ⟨_, rfl, Below.refl _ _, World.ownsRow_nil _ _ _ _⟩
  · obtain ⟨i0, hi0, hz0, hz1, hz2⟩ := info_parts S.intInfo
    have hold : (Builtin.firstCells i0.size 0 (.slice none 0 0)).run Try.prog w.drew = .ok ([] : List Value).toArray w.drew := run_firstCells_none w.drew i0.size 0 0 0
    have hnc : Builtin.nextslicecap (0 + n) 0 * i0.bytes ≤ 281474976710656 := growslice_fits (by omega) (by rw [hz2]; omega)
    have hrz : ∀ ty, (Builtin.append_ #[24, 3] ty #[.slice none 0 0, .int .i64 n]).run Try.prog w =
      .ok (.slice (some ⟨w.heap.size, 0, none⟩) (0 + n) (grownCap w (0 + n) 0 3)) (w.drew.alloc (.cells (([] : List Value).toArray ++ Builtin.zeroCells (Value.int .i64 0).cells n ++ Builtin.zeroCells (Value.int .i64 0).cells (grownCap w (0 + n) 0 3 - (0 + n))) 3)) :=
      fun ty => Lib.run_append_grow_zeros w 24 3 ty 3 i0 (.int .i64 0) .i64 .i64 (by kernel_rfl) (by kernel_rfl) hi0 hz0 none 0 0 [] hold n (by omega) (by omega) (by omega) (by omega) (by rw [hz2]; omega) hnc
    have hGn : 0 + n ≤ grownCap w (0 + n) 0 3 := grownCap_ge w _ _ _
    have hG63 : grownCap w (0 + n) 0 3 ≤ maxLen := grownCap_le_maxLen w (0 + n) 0 3 (by unfold maxLen; omega)
    generalize grownCap w (0 + n) 0 3 = G at *
    have hG : G ≤ 9223372036854775807 := by unfold maxLen at hG63; omega
    have own := World.ownsRow_made (base := w.heap.size) (size := 1) (e := 3) w.drew (([] : List Value).toArray ++ Builtin.zeroCells (Value.int .i64 0).cells n ++ Builtin.zeroCells (Value.int .i64 0).cells (G - (0 + n))) G (Nat.le_refl _) hG63 (by simp [Builtin.zeroCells, Value.cells]; omega)
    have HO := Lib.hid own
    clear hold hnc own hi0 hz0 hz1 hz2
    generalize (([] : List Value).toArray ++ Builtin.zeroCells (Value.int .i64 0).cells n ++ Builtin.zeroCells (Value.int .i64 0).cells (G - (0 + n))) = cs at *
    rw [Nat.zero_add] at hrz hGn
    have HR := Lib.hid hrz
    clear hrz
    go_enter Try.func54, Try.ntmps54
    go_wp2_with (at_builtin; refine Lib.wpList_append_run _ rfl _ _ _ _ rfl _ _ rfl rfl _ _ (HR.out _) ?_)
    go_ret
    exact ⟨_, rfl, by (repeat (with_reducible first | exact bR _ _ | assumption | refine bD ?_ | refine bN ?_ _ | refine bA ?_ _ | refine bS ?_ _)), HO.out⟩

/-- Two slices side by side in a new row. -/
structure Two (lim : Nat) (w : World) (g : Nat) (v0 v1 : Value) (xs ys : List Int) : Prop where
  c0 : w.cell? ⟨g, 0, none⟩ = some v0
  c1 : w.cell? ⟨g, 1, none⟩ = some v1
  x : Ints lim w v0 xs
  y : Ints lim w v1 ys

set_option maxRecDepth 100000 in
set_option maxHeartbeats 3200000 in
theorem concat_any (lim g : Nat) (v0 v1 : Value) (xs ys : List Int) (w : World) (t : Two lim w g v0 v1 xs ys) (hlim : lim ≤ w.heap.size) (hx : xs.length ≤ 4194304) (hy : ys.length ≤ 4194304) :
    Calls Try.prog 45 #[.slice (some ⟨g, 0, none⟩) 2 2] w (ResN w (xs ++ ys)) := by
  obtain ⟨c0, c1, tx, ty⟩ := t
  obtain ⟨a0, k0, rfl, l0, b0⟩ := tx.shape
  obtain ⟨a1, k1, rfl, l1, b1⟩ := ty.shape
  obtain ⟨i0, hi0, hz0, hz1, hz2⟩ := info_parts S.intInfo
  have FX := Lib.hid (ints_fits tx)
  have FY := Lib.hid (ints_fits ty)
  go_enter Try.func45, Try.ntmps45
  go_wp2_with fail
  go_loop [3, 11] (fun q i => (i = .int .i64 0 ∧ q = .int .i64 0) ∨ (i = .int .i64 1 ∧ q = .int .i64 xs.length) ∨ (i = .int .i64 2 ∧ q = .int .i64 ((xs.length + ys.length : Nat) : Int))) (fun _ i => 2 - (intOf i).toNat)
  case atStart => exact .inl ⟨rfl, rfl⟩
  case round =>
    rcases hrel with ⟨rfl, rfl⟩ | ⟨rfl, rfl⟩ | ⟨rfl, rfl⟩
    · go_wp2_with fail
      go_round
      case rel => exact .inr (.inl ⟨rfl, by go_num⟩)
      case measure => simp [intOf]
    · go_wp2_with fail
      go_round
      case rel => exact .inr (.inr ⟨rfl, by go_num⟩)
      case measure => simp [intOf]
    · go_wp2_with fail
      refine (growNil_any (xs.length + ys.length) w (by omega)).mono ?_; rintro e w1 ⟨u, rfl, f1, own⟩
      have d0 := ck f1 c0
      have d1 := ck f1 c1
      have sx := tx.keep f1 hlim
      have sy := ty.keep f1 hlim
      have hg := World.block_lt_of_cell? _ _ c0
      have z1 := f1.size
      have HC := Lib.hid (And.intro c0 c1)
      clear c0 c1 sx sy
      go_wp2_with fail
      go_loopw [6, 27] (fun v i wr => ∃ zs, wr.ownsRow w.heap.size 3 1 v zs.length (iv zs) ∧ Below w.heap.size w wr ∧ ((i = .int .i64 0 ∧ zs = []) ∨ (i = .int .i64 1 ∧ zs = xs) ∨ (i = .int .i64 2 ∧ zs = xs ++ ys))) (fun _ i _ => 2 - (intOf i).toNat)
      case atStart => exact ⟨[], own, f1, .inl ⟨rfl, rfl⟩⟩
      case round =>
        obtain ⟨zs, hown, be, hc⟩ := hrel
        obtain ⟨av, cv, rfl⟩ := own_slice hown
        have zr := be.size
        clear own d0 d1 f1
        have d0 := (be.cell (p := ⟨g, 0, none⟩) hg).trans HC.out.1
        have d1 := (be.cell (p := ⟨g, 1, none⟩) hg).trans HC.out.2
        have hzl : zs.length ≤ 8388608 := by rcases hc with ⟨_, h⟩ | ⟨_, h⟩ | ⟨_, h⟩ <;> rw [h] <;> first | (simp; done) | (simp; omega) | omega
        rcases hc with ⟨rfl, hz⟩ | ⟨rfl, hz⟩ | ⟨rfl, hz⟩
        all_goals have HZ := Lib.hid hz
        all_goals clear hz
        · have C := Lib.hid (ints_cells (tx.keep be hlim))
          have hk := fun k e => (hown.lt k e).1
          have gr := fun (w' : World) (h : wr.grownBy w' (Value.slice av zs.length cv).ownBlock) => below_grown h zr hk
          have HG := Lib.hid gr
          clear gr hk
          go_wp2_with (at_builtin; refine wpList_append_spread _ rfl _ _ 24 rfl w.heap.size 3 i0 (.int .i64 0) 1 8 Try.underlying24 hi0 hz0 hz1 hz2 rfl (by decide) (.slice av zs.length cv) zs.length (iv zs) rfl hown _ _ _ (iv xs) rfl (iv_length xs) C.out.1 C.out.2 (iv_one xs) (by unfold maxLen; omega) (by omega) zr ?_; rintro v' w5 ⟨own5, hgrow, -⟩; have e5 := HG.out _ hgrow; rw [← iv_append, ← List.length_append] at own5; have be5 := be.trans e5)
          have HO := Lib.hid own5
          clear hown hgrow own5 e5 HG C
          go_wp2_with fail
          go_roundw
          case rel => exact ⟨zs ++ xs, HO.out, be5, .inr (.inl ⟨rfl, by rw [HZ.out]; rfl⟩)⟩
          case measure => simp [intOf]
        · have C := Lib.hid (ints_cells (ty.keep be hlim))
          have hk := fun k e => (hown.lt k e).1
          have gr := fun (w' : World) (h : wr.grownBy w' (Value.slice av zs.length cv).ownBlock) => below_grown h zr hk
          have HG := Lib.hid gr
          clear gr hk
          go_wp2_with (at_builtin; refine wpList_append_spread _ rfl _ _ 24 rfl w.heap.size 3 i0 (.int .i64 0) 1 8 Try.underlying24 hi0 hz0 hz1 hz2 rfl (by decide) (.slice av zs.length cv) zs.length (iv zs) rfl hown _ _ _ (iv ys) rfl (iv_length ys) C.out.1 C.out.2 (iv_one ys) (by unfold maxLen; omega) (by omega) zr ?_; rintro v' w5 ⟨own5, hgrow, -⟩; have e5 := HG.out _ hgrow; rw [← iv_append, ← List.length_append] at own5; have be5 := be.trans e5)
          have HO := Lib.hid own5
          clear hown hgrow own5 e5 HG C
          go_wp2_with fail
          go_roundw
          case rel => exact ⟨zs ++ ys, HO.out, be5, .inr (.inr ⟨rfl, by rw [HZ.out]⟩)⟩
          case measure => simp [intOf]
        · have N := Nums.own (ts := zs) hown (by rw [HZ.out]; intro x hx; rcases List.mem_append.1 hx with h | h; exact FX.out x h; exact FY.out x h)
          go_wp2_with fail
          go_ret
          exact ⟨_, rfl, be, by rw [← HZ.out]; exact N⟩
end Go.Proofs.Ytldeckiflghpcaa.L
