/- The cursor over the bytes of a draw: each of its functions returns a number within its bounds and writes into the cursor alone. -/
import Derived.Test.YtbmpdippiafjiaaProg
import Derived.WalkKit
import Derived.Outline
import Derived.Lib.Hide
import Derived.Below
import Derived.Laws.NewBlocks
import Derived.Laws.BitsLemmas
import Derived.Deep.QuietTactic
import Derived.BigQuiet
import Derived.RegionTactic
namespace Go.Proofs.Ytbmpdippiafjiaa
open Go.RowKit
set_option linter.unusedVariables false

theorem i64_mask (k : Nat) (m : Int) (hk : (BitVec.ofInt 64 m).toNat = 2 ^ k - 1) (hk2 : k ≤ 32) (n : Int) : 0 ≤ bits .and .i64 n m ∧ bits .and .i64 n m ≤ 2 ^ k - 1 := by
  have key : (BitVec.ofInt 64 n &&& BitVec.ofInt 64 m).toNat = (n % ((2 ^ 64 : Nat) : Int)).toNat % 2 ^ k := by
    rw [BitVec.toNat_and, BitVec.toNat_ofInt, hk, Nat.and_two_pow_sub_one_eq_mod]
  have e : bits .and .i64 n m = IntKind.i64.wrap ((BitVec.ofInt 64 n &&& BitVec.ofInt 64 m).toNat : Nat) := rfl
  have hp : (2 : Nat) ^ k ≤ 2 ^ 32 := Nat.pow_le_pow_right (by omega) hk2
  have hq : 0 < (2 : Nat) ^ k := Nat.pow_pos (by omega)
  have hm := Nat.mod_lt (n % ((2 ^ 64 : Nat) : Int)).toNat hq
  have hc : ((2 : Int) ^ k) = ((2 ^ k : Nat) : Int) := by rw [Int.natCast_pow]; rfl
  rw [e, key, IntKind.wrap_i64, hc]
  generalize (2 : Nat) ^ k = q at *
  generalize (n % ((2 ^ 64 : Nat) : Int)).toNat % q = r at *
  omega
theorem and255 (n : Int) : 0 ≤ bits .and .i64 n 255 ∧ bits .and .i64 n 255 ≤ 255 := i64_mask 8 255 (by decide) (by omega) n
theorem and30 (n : Int) : 0 ≤ bits .and .i64 n 1073741823 ∧ bits .and .i64 n 1073741823 ≤ 1073741823 := i64_mask 30 1073741823 (by decide) (by omega) n
theorem w64 (n : Int) : -9223372036854775808 ≤ wrap64 n ∧ wrap64 n ≤ 9223372036854775807 := by unfold wrap64; omega

/-- The bytes that a slice leads to, below block B. -/
def Row (B : Nat) (w : World) (a : Option Addr) (len : Nat) : Prop :=
  len ≤ maxLen ∧ (len = 0 ∨ ∃ b off, a = some ⟨b, off, none⟩ ∧ b < B ∧ ∀ j, j < len → ∃ n : Int, 0 ≤ n ∧ n ≤ 255 ∧ w.cell? ⟨b, off + j, none⟩ = some (.int .u8 n))

theorem Row.keep {B : Nat} {w w' : World} {a : Option Addr} {len : Nat} (h : Row B w a len) (hb : Below B w w') : Row B w' a len := by
  obtain ⟨h1, h2⟩ := h
  refine ⟨h1, ?_⟩
  rcases h2 with h2 | ⟨b, off, e, hl, hc⟩
  · exact .inl h2
  · exact .inr ⟨b, off, e, hl, fun j hj => by obtain ⟨n, n0, n1, hn⟩ := hc j hj; exact ⟨n, n0, n1, by rw [hb.cell (p := ⟨b, off + j, none⟩) hl]; exact hn⟩⟩

/-- A cursor at block c over the bytes at a. -/
structure Cur (B : Nat) (w : World) (c : Nat) (a : Option Addr) (len cap : Nat) : Prop where
  lo : B ≤ c
  row : Row B w a len
  c0 : w.cell? ⟨c, 0, none⟩ = some (.slice a len cap)
  c1 : ∃ i : Nat, i ≤ len ∧ w.cell? ⟨c, 1, none⟩ = some (.int .i64 i)
  c2 : ∃ h : Int, -9223372036854775808 ≤ h ∧ h ≤ 9223372036854775807 ∧ w.cell? ⟨c, 2, none⟩ = some (.int .i64 h)
  fz : ∀ j, w.frozen? ⟨c, j, none⟩ = false

theorem cell_at {w w' : World} {b : Nat} (h : w'.heap[b]? = w.heap[b]?) (j : Nat) : w'.cell? ⟨b, j, none⟩ = w.cell? ⟨b, j, none⟩ := World.cell?_of_block (a := ⟨b, j, none⟩) h
theorem frozen_at {w w' : World} {b : Nat} (h : w'.heap[b]? = w.heap[b]?) (j : Nat) : w'.frozen? ⟨b, j, none⟩ = w.frozen? ⟨b, j, none⟩ := World.frozen?_of_block (a := ⟨b, j, none⟩) h

/-- It outlives whatever leaves its block and the old ones alone. -/
theorem Cur.keep {B : Nat} {w w' : World} {c : Nat} {a : Option Addr} {len cap : Nat} (h : Cur B w c a len cap) (hb : Below B w w') (hc : w'.heap[c]? = w.heap[c]?) : Cur B w' c a len cap := by
  obtain ⟨lo, row, c0, ⟨i, hi, c1⟩, ⟨g, g0, g1, c2⟩, fz⟩ := h
  exact ⟨lo, row.keep hb, by rw [cell_at hc]; exact c0, ⟨i, hi, by rw [cell_at hc]; exact c1⟩, ⟨g, g0, g1, by rw [cell_at hc]; exact c2⟩, fun j => by rw [frozen_at hc]; exact fz j⟩

theorem grownBy.refl (w : World) (r : Option Nat) : w.grownBy w r := ⟨rfl, rfl, rfl, Nat.le_refl _, fun _ _ _ => rfl⟩
theorem grownBy.trans {a b c : World} {r : Option Nat} (h : a.grownBy b r) (k : b.grownBy c r) : a.grownBy c r :=
  ⟨k.os.trans h.os, k.tape.trans h.tape, k.output.trans h.output, Nat.le_trans h.size k.size, fun i hi hn => (k.block i (Nat.lt_of_lt_of_le hi h.size) hn).trans (h.block i hi hn)⟩
theorem grownBy.drew {a b : World} {r : Option Nat} (h : a.grownBy b r) : a.grownBy b.drew r := ⟨h.os, h.tape, h.output, h.size, h.block⟩
theorem grownBy.setCell {a b : World} {c j : Nat} (h : a.grownBy b (some c)) (v : Value) : a.grownBy (b.setCell ⟨c, j, none⟩ v) (some c) :=
  ⟨h.os, h.tape, h.output, by rw [World.size_setCell]; exact h.size, fun i hi hn => (Below.heap_setCell _ _ _ _ (fun e => hn (by rw [e]))).trans (h.block i hi hn)⟩
theorem grownBy.alloc {a b : World} {r : Option Nat} (h : a.grownBy b r) (o : Obj) : a.grownBy (b.alloc o) r :=
  ⟨h.os, h.tape, h.output, by rw [World.size_alloc]; have := h.size; omega, fun i hi hn => (Below.heap_alloc _ _ _ (Nat.lt_of_lt_of_le hi h.size)).trans (h.block i hi hn)⟩
theorem below_of_grown {B c : Nat} {w w' : World} (h : w.grownBy w' (some c)) (hc : B ≤ c) (hB : B ≤ w.heap.size) : Below B w w' :=
  (Below.refl B w).grown h hB (fun k e => by simp at e; omega)

/-- What a step of the cursor ends in: a number for which P holds; only the cursor has been written. -/
def Step (B c : Nat) (a : Option Addr) (len cap : Nat) (P : Int → Prop) (w : World) (e : Ending) (w' : World) : Prop :=
  ∃ x : Int, e = .returned (.int .i64 x) ∧ P x ∧ Cur B w' c a len cap ∧ w.grownBy w' (some c)

set_option maxRecDepth 100000 in
set_option maxHeartbeats 1600000 in
theorem l1Byte_any (B c : Nat) (a : Option Addr) (len cap : Nat) (w : World) (hB : B ≤ w.heap.size) (hcur : Cur B w c a len cap) :
    Calls Try.prog 24 #[.pointer (some ⟨c, 0, none⟩)] w (Step B c a len cap (fun x => 0 ≤ x ∧ x ≤ 255) w) := by
  obtain ⟨lo, row, c0, ⟨i, hi, c1⟩, ⟨h, h0, h1, c2⟩, fz⟩ := id hcur
  have f1 := fz 1
  have f2 := fz 2
  have row' := row
  obtain ⟨hml, row⟩ := row
  unfold maxLen at hml
  have heap_drewN : ∀ (v : World) (n : Nat), (v.drewN n).heap = v.heap := fun _ _ => rfl
  have two : ∀ (g : Int) (k n : Nat), -9223372036854775808 ≤ g → g ≤ 9223372036854775807 → k ≤ len → Cur B (((w.setCell ⟨c, 2, none⟩ (.int .i64 g)).setCell ⟨c, 1, none⟩ (.int .i64 k)).drewN n) c a len cap ∧ w.grownBy (((w.setCell ⟨c, 2, none⟩ (.int .i64 g)).setCell ⟨c, 1, none⟩ (.int .i64 k)).drewN n) (some c) := by
    intro g k n g0 g1 hk
    have hg : w.grownBy (((w.setCell ⟨c, 2, none⟩ (.int .i64 g)).setCell ⟨c, 1, none⟩ (.int .i64 k)).drewN n) (some c) := by
      have := grownBy.setCell (j := 1) (grownBy.setCell (j := 2) (grownBy.refl w (some c)) (.int .i64 g)) (.int .i64 k)
      exact ⟨this.os, this.tape, this.output, this.size, this.block⟩
    have d1 : (w.setCell ⟨c, 2, none⟩ (.int .i64 g)).cell? ⟨c, 1, none⟩ = some (.int .i64 i) := (World.cell?_setCell_other _ _ _ _ (by simp)).trans c1
    refine ⟨⟨lo, row'.keep (below_of_grown hg lo hB), ?_, ⟨k, hk, ?_⟩, ⟨g, g0, g1, ?_⟩, fun j => ?_⟩, hg⟩
    · show ((w.setCell ⟨c, 2, none⟩ (.int .i64 g)).setCell ⟨c, 1, none⟩ (.int .i64 k)).cell? ⟨c, 0, none⟩ = _
      exact (World.cell?_setCell_other _ _ _ _ (by simp)).trans ((World.cell?_setCell_other _ _ _ _ (by simp)).trans c0)
    · show ((w.setCell ⟨c, 2, none⟩ (.int .i64 g)).setCell ⟨c, 1, none⟩ (.int .i64 k)).cell? ⟨c, 1, none⟩ = _
      exact World.cell?_setCell_same _ _ _ d1
    · show ((w.setCell ⟨c, 2, none⟩ (.int .i64 g)).setCell ⟨c, 1, none⟩ (.int .i64 k)).cell? ⟨c, 2, none⟩ = _
      exact (World.cell?_setCell_other _ _ _ _ (by simp)).trans (World.cell?_setCell_same _ _ _ c2)
    · show ((w.setCell ⟨c, 2, none⟩ (.int .i64 g)).setCell ⟨c, 1, none⟩ (.int .i64 k)).frozen? ⟨c, j, none⟩ = _
      rw [World.frozen?_setCell, World.frozen?_setCell]; exact fz j
  have one : ∀ (g : Int) (n : Nat), -9223372036854775808 ≤ g → g ≤ 9223372036854775807 → Cur B ((w.setCell ⟨c, 2, none⟩ (.int .i64 g)).drewN n) c a len cap ∧ w.grownBy ((w.setCell ⟨c, 2, none⟩ (.int .i64 g)).drewN n) (some c) := by
    intro g n g0 g1
    have hg : w.grownBy ((w.setCell ⟨c, 2, none⟩ (.int .i64 g)).drewN n) (some c) := by
      have := grownBy.setCell (j := 2) (grownBy.refl w (some c)) (.int .i64 g)
      exact ⟨this.os, this.tape, this.output, this.size, this.block⟩
    refine ⟨⟨lo, row'.keep (below_of_grown hg lo hB), ?_, ⟨i, hi, ?_⟩, ⟨g, g0, g1, ?_⟩, fun j => ?_⟩, hg⟩
    · show (w.setCell ⟨c, 2, none⟩ (.int .i64 g)).cell? ⟨c, 0, none⟩ = _
      exact (World.cell?_setCell_other _ _ _ _ (by simp)).trans c0
    · show (w.setCell ⟨c, 2, none⟩ (.int .i64 g)).cell? ⟨c, 1, none⟩ = _
      exact (World.cell?_setCell_other _ _ _ _ (by simp)).trans c1
    · show (w.setCell ⟨c, 2, none⟩ (.int .i64 g)).cell? ⟨c, 2, none⟩ = _
      exact World.cell?_setCell_same _ _ _ c2
    · show (w.setCell ⟨c, 2, none⟩ (.int .i64 g)).frozen? ⟨c, j, none⟩ = _
      rw [World.frozen?_setCell]; exact fz j
  clear heap_drewN
  by_cases hlt : i < len
  · rcases row with h0' | ⟨b, off, rfl, hb, hc⟩
    · omega
    obtain ⟨n, n0, n1, hn⟩ := hc i hlt
    have hne : (⟨c, 2, none⟩ : Addr) ≠ ⟨b, off + i, none⟩ := fun e => by
      have := congrArg Addr.block e
      simp at this
      omega
    have hn' : ∀ v, (w.setCell ⟨c, 2, none⟩ v).cell? ⟨b, off + i, none⟩ = some (.int .u8 n) := fun v => (World.cell?_setCell_other _ _ _ _ hne).trans hn
    have FZ := Lib.hid fz
    have T := Lib.hid two
    clear two one fz hc hn hne
    go_enter Try.func24, Try.ntmps24
    go_wp2_with fail
    go_region
    go_wp2_with fail
    go_region
    go_wp2_with fail
    go_region
    go_wp2_with fail
    go_ret
    exact ⟨_, rfl, and255 _, T.out _ (i + 1) 3 (w64 _).1 (w64 _).2 hlt⟩
  · have T := Lib.hid one
    clear row fz two one
    go_enter Try.func24, Try.ntmps24
    go_wp2_with fail
    go_region
    go_wp2_with fail
    go_region
    go_wp2_with fail
    go_ret
    exact ⟨_, rfl, and255 _, T.out _ 2 (w64 _).1 (w64 _).2⟩

theorem Step.mono {B c : Nat} {a : Option Addr} {len cap : Nat} {P Q : Int → Prop} {w : World} {e : Ending} {w' : World} (h : Step B c a len cap P w e w') (hq : ∀ x, P x → Q x) : Step B c a len cap Q w e w' := by
  obtain ⟨x, h1, h2, h3, h4⟩ := h
  exact ⟨x, h1, hq x h2, h3, h4⟩

/-- What l1Below returns for n. -/
def Under (n : Int) (x : Int) : Prop := 0 ≤ x ∧ (x < n ∨ x = 0)

set_option maxRecDepth 100000 in
set_option maxHeartbeats 1600000 in
theorem l1Below_any (B c : Nat) (a : Option Addr) (len cap : Nat) (n : Int) (w : World) (n1 : n ≤ 9223372036854775807) (hB : B ≤ w.heap.size) (hcur : Cur B w c a len cap) :
    Calls Try.prog 22 #[.pointer (some ⟨c, 0, none⟩), .int .i64 n] w (Step B c a len cap (Under n) w) := by
  by_cases h0 : n ≤ 0
  · go_enter Try.func22, Try.ntmps22
    go_wp2_with fail
    go_ret
    exact ⟨_, rfl, ⟨by omega, .inr rfl⟩, hcur, grownBy.refl _ _⟩
  · by_cases h1 : n ≤ 256
    · go_enter Try.func22, Try.ntmps22
      go_wp2_with fail
      refine (l1Byte_any B c a len cap _ hB hcur).mono ?_
      rintro e w1 ⟨x, rfl, ⟨x0, x1⟩, cu, gr⟩
      go_wp2_with fail
      go_ret
      refine ⟨_, rfl, ⟨?_, .inl ?_⟩, cu, gr⟩
      · exact Int.emod_nonneg _ (by omega)
      · exact Int.emod_lt_of_pos _ (by omega)
    · go_enter Try.func22, Try.ntmps22
      go_wp2_with fail
      refine (l1Byte_any B c a len cap _ hB hcur).mono ?_
      rintro e w1 ⟨x, rfl, ⟨x0, x1⟩, cu1, gr1⟩
      have hB1 := Nat.le_trans hB gr1.size
      go_wp2_with fail
      refine (l1Byte_any B c a len cap _ hB1 cu1).mono ?_
      rintro e w2 ⟨y, rfl, ⟨y0, y1⟩, cu2, gr2⟩
      have hB2 := Nat.le_trans hB1 gr2.size
      go_wp2_with fail
      refine (l1Byte_any B c a len cap _ hB2 cu2).mono ?_
      rintro e w3 ⟨z, rfl, ⟨z0, z1⟩, cu3, gr3⟩
      have hB3 := Nat.le_trans hB2 gr3.size
      go_wp2_with fail
      refine (l1Byte_any B c a len cap _ hB3 cu3).mono ?_
      rintro e w4 ⟨u, rfl, ⟨u0, u1⟩, cu4, gr4⟩
      go_wp2_with fail
      go_ret
      refine ⟨_, rfl, ⟨?_, .inl ?_⟩, cu4, grownBy.trans gr1 (grownBy.trans gr2 (grownBy.trans gr3 gr4))⟩
      · exact Int.emod_nonneg _ (by omega)
      · exact Int.emod_lt_of_pos _ (by omega)

/-- The elements of a list of numbers, each of which has P. -/
def Elems (w : World) (b off n : Nat) (P : Int → Prop) : Prop := ∀ j, j < n → ∃ x : Int, P x ∧ w.cell? ⟨b, off + j, none⟩ = some (.int .i64 x)

theorem Elems.keep {w w' : World} {b off n : Nat} {P : Int → Prop} (h : Elems w b off n P) (hb : w'.heap[b]? = w.heap[b]?) : Elems w' b off n P := fun j hj => by
  obtain ⟨x, hx, hc⟩ := h j hj
  exact ⟨x, hx, by rw [cell_at hb]; exact hc⟩

set_option maxRecDepth 100000 in
set_option maxHeartbeats 1600000 in
theorem l1PickInt_any (B c : Nat) (a : Option Addr) (len cap : Nat) (b off n m : Nat) (P : Int → Prop) (w : World) (hn : 0 < n) (hn1 : n ≤ 9223372036854775807) (hbc : b ≠ c) (hbs : b < w.heap.size) (hB : B ≤ w.heap.size) (hcur : Cur B w c a len cap) (hel : Elems w b off n P) :
    Calls Try.prog 21 #[.pointer (some ⟨c, 0, none⟩), .slice (some ⟨b, off, none⟩) n m] w (Step B c a len cap P w) := by
  go_enter Try.func21, Try.ntmps21
  go_wp2_with fail
  refine (l1Below_any B c a len cap _ _ (by omega) hB hcur).mono ?_
  rintro e w1 ⟨x, rfl, ⟨x0, x1⟩, cu, gr⟩
  obtain ⟨k, rfl⟩ := Int.eq_ofNat_of_zero_le x0
  obtain ⟨v, hv, hc⟩ := (hel.keep (gr.block b hbs (by simpa using hbc))) k (by omega)
  have hkn : k < n := by omega
  go_wp2_with fail
  go_ret
  exact ⟨_, rfl, hv, cu, gr⟩
end Go.Proofs.Ytbmpdippiafjiaa
