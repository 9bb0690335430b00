/- B31: Draw DrawF Row -/
import Derived.Test.YtcenijdaacbgpaaProg
import Derived.WalkKit
import Derived.Outline
import Derived.Lib.Hide
import Derived.Below
import Derived.Laws.NewBlocks
import Derived.Laws.BitsLemmas
import Derived.Deep.QuietTactic
import Derived.BigQuiet
import Derived.RegionTactic
import Derived.OpenShut
set_option linter.unusedVariables false
set_option linter.unusedSimpArgs false
/- The cursor over the bytes of a draw: each of its functions returns a number within its bounds and writes into the cursor alone. -/
namespace Go.Proofs.Ytcenijdaacbgpaa
open Go.RowKit
set_option linter.unusedVariables false

theorem i64_mask (k : Nat) (m : Int) (hk : (BitVec.ofInt 64 m).toNat = 2 ^ k - 1) (hk2 : k ≤ 32) (n : Int) : 0 ≤ bits .and .i64 n m ∧ bits .and .i64 n m ≤ 2 ^ k - 1 := by
  have key : (BitVec.ofInt 64 n &&& BitVec.ofInt 64 m).toNat = (n % ((2 ^ 64 : Nat) : Int)).toNat % 2 ^ k := by
    rw [BitVec.toNat_and, BitVec.toNat_ofInt, hk, Nat.and_two_pow_sub_one_eq_mod]
  have e : bits .and .i64 n m = IntKind.i64.wrap ((BitVec.ofInt 64 n &&& BitVec.ofInt 64 m).toNat : Nat) := rfl
  have hp : (2 : Nat) ^ k ≤ 2 ^ 32 := Nat.pow_le_pow_right (by omega) hk2
  have hq : 0 < (2 : Nat) ^ k := Nat.pow_pos (by omega)
  have hm := Nat.mod_lt (n % ((2 ^ 64 : Nat) : Int)).toNat hq
  have hc : ((2 : Int) ^ k) = ((2 ^ k : Nat) : Int) := by rw [Int.natCast_pow]; rfl
  rw [e, key, IntKind.wrap_i64, hc]
  generalize (2 : Nat) ^ k = q at *
  generalize (n % ((2 ^ 64 : Nat) : Int)).toNat % q = r at *
  omega
theorem and255 (n : Int) : 0 ≤ bits .and .i64 n 255 ∧ bits .and .i64 n 255 ≤ 255 := i64_mask 8 255 (by decide) (by omega) n
theorem and30 (n : Int) : 0 ≤ bits .and .i64 n 1073741823 ∧ bits .and .i64 n 1073741823 ≤ 1073741823 := i64_mask 30 1073741823 (by decide) (by omega) n
theorem w64 (n : Int) : -9223372036854775808 ≤ wrap64 n ∧ wrap64 n ≤ 9223372036854775807 := by unfold wrap64; omega

/-- The bytes that a slice leads to, below block B. -/
def Row (B : Nat) (w : World) (a : Option Addr) (len : Nat) : Prop :=
  len ≤ maxLen ∧ (len = 0 ∨ ∃ b off, a = some ⟨b, off, none⟩ ∧ b < B ∧ ∀ j, j < len → ∃ n : Int, 0 ≤ n ∧ n ≤ 255 ∧ w.cell? ⟨b, off + j, none⟩ = some (.int .u8 n))

theorem Row.keep {B : Nat} {w w' : World} {a : Option Addr} {len : Nat} (h : Row B w a len) (hb : Below B w w') : Row B w' a len := by
  obtain ⟨h1, h2⟩ := h
  refine ⟨h1, ?_⟩
  rcases h2 with h2 | ⟨b, off, e, hl, hc⟩
  · exact .inl h2
  · exact .inr ⟨b, off, e, hl, fun j hj => by obtain ⟨n, n0, n1, hn⟩ := hc j hj; exact ⟨n, n0, n1, by rw [hb.cell (p := ⟨b, off + j, none⟩) hl]; exact hn⟩⟩

/-- A cursor at block c over the bytes at a. -/
structure Cur (B : Nat) (w : World) (c : Nat) (a : Option Addr) (len cap : Nat) : Prop where
  lo : B ≤ c
  row : Row B w a len
  c0 : w.cell? ⟨c, 0, none⟩ = some (.slice a len cap)
  c1 : ∃ i : Nat, i ≤ len ∧ w.cell? ⟨c, 1, none⟩ = some (.int .i64 i)
  c2 : ∃ h : Int, -9223372036854775808 ≤ h ∧ h ≤ 9223372036854775807 ∧ w.cell? ⟨c, 2, none⟩ = some (.int .i64 h)
  fz : ∀ j, w.frozen? ⟨c, j, none⟩ = false

theorem cell_at {w w' : World} {b : Nat} (h : w'.heap[b]? = w.heap[b]?) (j : Nat) : w'.cell? ⟨b, j, none⟩ = w.cell? ⟨b, j, none⟩ := World.cell?_of_block (a := ⟨b, j, none⟩) h
theorem frozen_at {w w' : World} {b : Nat} (h : w'.heap[b]? = w.heap[b]?) (j : Nat) : w'.frozen? ⟨b, j, none⟩ = w.frozen? ⟨b, j, none⟩ := World.frozen?_of_block (a := ⟨b, j, none⟩) h

/-- It outlives whatever leaves its block and the old ones alone. -/
theorem Cur.keep {B : Nat} {w w' : World} {c : Nat} {a : Option Addr} {len cap : Nat} (h : Cur B w c a len cap) (hb : Below B w w') (hc : w'.heap[c]? = w.heap[c]?) : Cur B w' c a len cap := by
  obtain ⟨lo, row, c0, ⟨i, hi, c1⟩, ⟨g, g0, g1, c2⟩, fz⟩ := h
  exact ⟨lo, row.keep hb, by rw [cell_at hc]; exact c0, ⟨i, hi, by rw [cell_at hc]; exact c1⟩, ⟨g, g0, g1, by rw [cell_at hc]; exact c2⟩, fun j => by rw [frozen_at hc]; exact fz j⟩

theorem grownBy.refl (w : World) (r : Option Nat) : w.grownBy w r := ⟨rfl, rfl, rfl, Nat.le_refl _, fun _ _ _ => rfl⟩
theorem grownBy.trans {a b c : World} {r : Option Nat} (h : a.grownBy b r) (k : b.grownBy c r) : a.grownBy c r :=
  ⟨k.os.trans h.os, k.tape.trans h.tape, k.output.trans h.output, Nat.le_trans h.size k.size, fun i hi hn => (k.block i (Nat.lt_of_lt_of_le hi h.size) hn).trans (h.block i hi hn)⟩
theorem grownBy.drew {a b : World} {r : Option Nat} (h : a.grownBy b r) : a.grownBy b.drew r := ⟨h.os, h.tape, h.output, h.size, h.block⟩
theorem grownBy.setCell {a b : World} {c j : Nat} (h : a.grownBy b (some c)) (v : Value) : a.grownBy (b.setCell ⟨c, j, none⟩ v) (some c) :=
  ⟨h.os, h.tape, h.output, by rw [World.size_setCell]; exact h.size, fun i hi hn => (Below.heap_setCell _ _ _ _ (fun e => hn (by rw [e]))).trans (h.block i hi hn)⟩
theorem grownBy.alloc {a b : World} {r : Option Nat} (h : a.grownBy b r) (o : Obj) : a.grownBy (b.alloc o) r :=
  ⟨h.os, h.tape, h.output, by rw [World.size_alloc]; have := h.size; omega, fun i hi hn => (Below.heap_alloc _ _ _ (Nat.lt_of_lt_of_le hi h.size)).trans (h.block i hi hn)⟩
theorem below_of_grown {B c : Nat} {w w' : World} (h : w.grownBy w' (some c)) (hc : B ≤ c) (hB : B ≤ w.heap.size) : Below B w w' :=
  (Below.refl B w).grown h hB (fun k e => by simp at e; omega)

/-- What a step of the cursor ends in: a number for which P holds; only the cursor has been written. -/
def Step (B c : Nat) (a : Option Addr) (len cap : Nat) (P : Int → Prop) (w : World) (e : Ending) (w' : World) : Prop :=
  ∃ x : Int, e = .returned (.int .i64 x) ∧ P x ∧ Cur B w' c a len cap ∧ w.grownBy w' (some c)

set_option maxRecDepth 100000 in
set_option maxHeartbeats 1600000 in
theorem l1Byte_any (B c : Nat) (a : Option Addr) (len cap : Nat) (w : World) (hB : B ≤ w.heap.size) (hcur : Cur B w c a len cap) :
    Calls Try.prog 61 #[.pointer (some ⟨c, 0, none⟩)] w (Step B c a len cap (fun x => 0 ≤ x ∧ x ≤ 255) w) := by
  obtain ⟨lo, row, c0, ⟨i, hi, c1⟩, ⟨h, h0, h1, c2⟩, fz⟩ := id hcur
  have f1 := fz 1
  have f2 := fz 2
  have row' := row
  obtain ⟨hml, row⟩ := row
  unfold maxLen at hml
  have heap_drewN : ∀ (v : World) (n : Nat), (v.drewN n).heap = v.heap := fun _ _ => rfl
  have two : ∀ (g : Int) (k n : Nat), -9223372036854775808 ≤ g → g ≤ 9223372036854775807 → k ≤ len → Cur B (((w.setCell ⟨c, 2, none⟩ (.int .i64 g)).setCell ⟨c, 1, none⟩ (.int .i64 k)).drewN n) c a len cap ∧ w.grownBy (((w.setCell ⟨c, 2, none⟩ (.int .i64 g)).setCell ⟨c, 1, none⟩ (.int .i64 k)).drewN n) (some c) := by
    intro g k n g0 g1 hk
    have hg : w.grownBy (((w.setCell ⟨c, 2, none⟩ (.int .i64 g)).setCell ⟨c, 1, none⟩ (.int .i64 k)).drewN n) (some c) := by
      have := grownBy.setCell (j := 1) (grownBy.setCell (j := 2) (grownBy.refl w (some c)) (.int .i64 g)) (.int .i64 k)
      exact ⟨this.os, this.tape, this.output, this.size, this.block⟩
    have d1 : (w.setCell ⟨c, 2, none⟩ (.int .i64 g)).cell? ⟨c, 1, none⟩ = some (.int .i64 i) := (World.cell?_setCell_other _ _ _ _ (by simp)).trans c1
    refine ⟨⟨lo, row'.keep (below_of_grown hg lo hB), ?_, ⟨k, hk, ?_⟩, ⟨g, g0, g1, ?_⟩, fun j => ?_⟩, hg⟩
    · show ((w.setCell ⟨c, 2, none⟩ (.int .i64 g)).setCell ⟨c, 1, none⟩ (.int .i64 k)).cell? ⟨c, 0, none⟩ = _
      exact (World.cell?_setCell_other _ _ _ _ (by simp)).trans ((World.cell?_setCell_other _ _ _ _ (by simp)).trans c0)
    · show ((w.setCell ⟨c, 2, none⟩ (.int .i64 g)).setCell ⟨c, 1, none⟩ (.int .i64 k)).cell? ⟨c, 1, none⟩ = _
      exact World.cell?_setCell_same _ _ _ d1
    · show ((w.setCell ⟨c, 2, none⟩ (.int .i64 g)).setCell ⟨c, 1, none⟩ (.int .i64 k)).cell? ⟨c, 2, none⟩ = _
      exact (World.cell?_setCell_other _ _ _ _ (by simp)).trans (World.cell?_setCell_same _ _ _ c2)
    · show ((w.setCell ⟨c, 2, none⟩ (.int .i64 g)).setCell ⟨c, 1, none⟩ (.int .i64 k)).frozen? ⟨c, j, none⟩ = _
      rw [World.frozen?_setCell, World.frozen?_setCell]; exact fz j
  have one : ∀ (g : Int) (n : Nat), -9223372036854775808 ≤ g → g ≤ 9223372036854775807 → Cur B ((w.setCell ⟨c, 2, none⟩ (.int .i64 g)).drewN n) c a len cap ∧ w.grownBy ((w.setCell ⟨c, 2, none⟩ (.int .i64 g)).drewN n) (some c) := by
    intro g n g0 g1
    have hg : w.grownBy ((w.setCell ⟨c, 2, none⟩ (.int .i64 g)).drewN n) (some c) := by
      have := grownBy.setCell (j := 2) (grownBy.refl w (some c)) (.int .i64 g)
      exact ⟨this.os, this.tape, this.output, this.size, this.block⟩
    refine ⟨⟨lo, row'.keep (below_of_grown hg lo hB), ?_, ⟨i, hi, ?_⟩, ⟨g, g0, g1, ?_⟩, fun j => ?_⟩, hg⟩
    · show (w.setCell ⟨c, 2, none⟩ (.int .i64 g)).cell? ⟨c, 0, none⟩ = _
      exact (World.cell?_setCell_other _ _ _ _ (by simp)).trans c0
    · show (w.setCell ⟨c, 2, none⟩ (.int .i64 g)).cell? ⟨c, 1, none⟩ = _
      exact (World.cell?_setCell_other _ _ _ _ (by simp)).trans c1
    · show (w.setCell ⟨c, 2, none⟩ (.int .i64 g)).cell? ⟨c, 2, none⟩ = _
      exact World.cell?_setCell_same _ _ _ c2
    · show (w.setCell ⟨c, 2, none⟩ (.int .i64 g)).frozen? ⟨c, j, none⟩ = _
      rw [World.frozen?_setCell]; exact fz j
  clear heap_drewN
  by_cases hlt : i < len
  · rcases row with h0' | ⟨b, off, rfl, hb, hc⟩
    · omega
    obtain ⟨n, n0, n1, hn⟩ := hc i hlt
    have hne : (⟨c, 2, none⟩ : Addr) ≠ ⟨b, off + i, none⟩ := fun e => by
      have := congrArg Addr.block e
      simp at this
      omega
    have hn' : ∀ v, (w.setCell ⟨c, 2, none⟩ v).cell? ⟨b, off + i, none⟩ = some (.int .u8 n) := fun v => (World.cell?_setCell_other _ _ _ _ hne).trans hn
    have FZ := Lib.hid fz
    have T := Lib.hid two
    clear two one fz hc hn hne
    go_enter Try.func61, Try.ntmps61
    go_wp2_with fail
    go_region
    go_wp2_with fail
    go_region
    go_wp2_with fail
    go_region
    go_wp2_with fail
    go_ret
    exact ⟨_, rfl, and255 _, T.out _ (i + 1) 3 (w64 _).1 (w64 _).2 hlt⟩
  · have T := Lib.hid one
    clear row fz two one
    go_enter Try.func61, Try.ntmps61
    go_wp2_with fail
    go_region
    go_wp2_with fail
    go_region
    go_wp2_with fail
    go_ret
    exact ⟨_, rfl, and255 _, T.out _ 2 (w64 _).1 (w64 _).2⟩

theorem Step.mono {B c : Nat} {a : Option Addr} {len cap : Nat} {P Q : Int → Prop} {w : World} {e : Ending} {w' : World} (h : Step B c a len cap P w e w') (hq : ∀ x, P x → Q x) : Step B c a len cap Q w e w' := by
  obtain ⟨x, h1, h2, h3, h4⟩ := h
  exact ⟨x, h1, hq x h2, h3, h4⟩

/-- What l1Below returns for n. -/
def Under (n : Int) (x : Int) : Prop := 0 ≤ x ∧ (x < n ∨ x = 0)

set_option maxRecDepth 100000 in
set_option maxHeartbeats 1600000 in
theorem l1Below_any (B c : Nat) (a : Option Addr) (len cap : Nat) (n : Int) (w : World) (n1 : n ≤ 9223372036854775807) (hB : B ≤ w.heap.size) (hcur : Cur B w c a len cap) :
    Calls Try.prog 39 #[.pointer (some ⟨c, 0, none⟩), .int .i64 n] w (Step B c a len cap (Under n) w) := by
  by_cases h0 : n ≤ 0
  · go_enter Try.func39, Try.ntmps39
    go_wp2_with fail
    go_ret
    exact ⟨_, rfl, ⟨by omega, .inr rfl⟩, hcur, grownBy.refl _ _⟩
  · by_cases h1 : n ≤ 256
    · go_enter Try.func39, Try.ntmps39
      go_wp2_with fail
      refine (l1Byte_any B c a len cap _ hB hcur).mono ?_
      rintro e w1 ⟨x, rfl, ⟨x0, x1⟩, cu, gr⟩
      go_wp2_with fail
      go_ret
      refine ⟨_, rfl, ⟨?_, .inl ?_⟩, cu, gr⟩
      · exact Int.emod_nonneg _ (by omega)
      · exact Int.emod_lt_of_pos _ (by omega)
    · go_enter Try.func39, Try.ntmps39
      go_wp2_with fail
      refine (l1Byte_any B c a len cap _ hB hcur).mono ?_
      rintro e w1 ⟨x, rfl, ⟨x0, x1⟩, cu1, gr1⟩
      have hB1 := Nat.le_trans hB gr1.size
      go_wp2_with fail
      refine (l1Byte_any B c a len cap _ hB1 cu1).mono ?_
      rintro e w2 ⟨y, rfl, ⟨y0, y1⟩, cu2, gr2⟩
      have hB2 := Nat.le_trans hB1 gr2.size
      go_wp2_with fail
      refine (l1Byte_any B c a len cap _ hB2 cu2).mono ?_
      rintro e w3 ⟨z, rfl, ⟨z0, z1⟩, cu3, gr3⟩
      have hB3 := Nat.le_trans hB2 gr3.size
      go_wp2_with fail
      refine (l1Byte_any B c a len cap _ hB3 cu3).mono ?_
      rintro e w4 ⟨u, rfl, ⟨u0, u1⟩, cu4, gr4⟩
      go_wp2_with fail
      go_ret
      refine ⟨_, rfl, ⟨?_, .inl ?_⟩, cu4, grownBy.trans gr1 (grownBy.trans gr2 (grownBy.trans gr3 gr4))⟩
      · exact Int.emod_nonneg _ (by omega)
      · exact Int.emod_lt_of_pos _ (by omega)

/-- The elements of a list of numbers, each of which has P. -/
def Elems (w : World) (b off n : Nat) (P : Int → Prop) : Prop := ∀ j, j < n → ∃ x : Int, P x ∧ w.cell? ⟨b, off + j, none⟩ = some (.int .i64 x)

theorem Elems.keep {w w' : World} {b off n : Nat} {P : Int → Prop} (h : Elems w b off n P) (hb : w'.heap[b]? = w.heap[b]?) : Elems w' b off n P := fun j hj => by
  obtain ⟨x, hx, hc⟩ := h j hj
  exact ⟨x, hx, by rw [cell_at hb]; exact hc⟩

set_option maxRecDepth 100000 in
set_option maxHeartbeats 1600000 in
theorem l1PickInt_any (B c : Nat) (a : Option Addr) (len cap : Nat) (b off n m : Nat) (P : Int → Prop) (w : World) (hn : 0 < n) (hn1 : n ≤ 9223372036854775807) (hbc : b ≠ c) (hbs : b < w.heap.size) (hB : B ≤ w.heap.size) (hcur : Cur B w c a len cap) (hel : Elems w b off n P) :
    Calls Try.prog 38 #[.pointer (some ⟨c, 0, none⟩), .slice (some ⟨b, off, none⟩) n m] w (Step B c a len cap P w) := by
  go_enter Try.func38, Try.ntmps38
  go_wp2_with fail
  refine (l1Below_any B c a len cap _ _ (by omega) hB hcur).mono ?_
  rintro e w1 ⟨x, rfl, ⟨x0, x1⟩, cu, gr⟩
  obtain ⟨k, rfl⟩ := Int.eq_ofNat_of_zero_le x0
  obtain ⟨v, hv, hc⟩ := (hel.keep (gr.block b hbs (by simpa using hbc))) k (by omega)
  have hkn : k < n := by omega
  go_wp2_with fail
  go_ret
  exact ⟨_, rfl, hv, cu, gr⟩
end Go.Proofs.Ytcenijdaacbgpaa

/- The draws of layer 1: numbers that fit their kind; nothing that was there is written. -/
namespace Go.Proofs.Ytcenijdaacbgpaa
open Go.RowKit
set_option linter.unusedVariables false

/-- It fits an int. -/
def Fits (x : Int) : Prop := -9223372036854775808 ≤ x ∧ x ≤ 9223372036854775807
theorem fits_and30 (n : Int) : Fits (bits .and .i64 n 1073741823) := by have := and30 n; unfold Fits; omega

theorem Elems.new {w : World} {t : TypeId} {l : List Int} {P : Int → Prop} (cs : Array Value) (hcs : cs = (l.map (Value.int .i64)).toArray) (h : ∀ x ∈ l, P x) : Elems (w.alloc (.cells cs t)) w.heap.size 0 l.length P := fun j hj => by
  refine ⟨l[j], h _ (List.getElem_mem _), ?_⟩
  rw [World.cell?_alloc_at _ _ _ _ rfl, hcs, Nat.zero_add]
  simp [hj]

set_option maxRecDepth 100000 in
set_option maxHeartbeats 1600000 in
theorem l1draw_any (B c : Nat) (a : Option Addr) (len cap : Nat) (w : World) (hB : B ≤ w.heap.size) (hcur : Cur B w c a len cap) :
    Calls Try.prog 19 #[.pointer (some ⟨c, 0, none⟩)] w (Step B c a len cap Fits w) := by
  go_enter Try.func19, Try.ntmps19
  go_wp2_with fail
  refine (l1Below_any B c a len cap _ _ (by omega) hB hcur).mono ?_
  rintro e w1 ⟨x, rfl, ⟨x0, x1⟩, cu1, gr1⟩
  have hB1 := Nat.le_trans hB gr1.size
  go_wp2_with fail
  refine (l1Below_any B c a len cap _ _ (by omega) hB1 cu1).mono ?_
  rintro e w2 ⟨y, rfl, ⟨y0, y1⟩, cu2, gr2⟩
  have hB2 := Nat.le_trans hB1 gr2.size
  go_wp2_with fail
  have hcs : c < w2.heap.size := World.block_lt_of_cell? w2 ⟨c, 0, none⟩ cu2.c0
  have gr3 := grownBy.alloc (grownBy.trans gr1 gr2) (.cells #[.int .i64 0, .int .i64 1, .int .i64 2, .int .i64 7, .int .i64 255, .int .i64 2147483646, .int .i64 2147483647, .int .i64 2147483648, .int .i64 (-1), .int .i64 9223372036854775807, .int .i64 (-9223372036854775808), .int .i64 x, .int .i64 (2147483646 - y)] 3)
  have cu3 := cu2.keep ((Below.refl B w2).alloc hB2 (.cells #[.int .i64 0, .int .i64 1, .int .i64 2, .int .i64 7, .int .i64 255, .int .i64 2147483646, .int .i64 2147483647, .int .i64 2147483648, .int .i64 (-1), .int .i64 9223372036854775807, .int .i64 (-9223372036854775808), .int .i64 x, .int .i64 (2147483646 - y)] 3)) (Below.heap_alloc _ _ _ hcs)
  have el := Elems.new (w := w2) (t := 3) (l := [0, 1, 2, 7, 255, 2147483646, 2147483647, 2147483648, -1, 9223372036854775807, -9223372036854775808, x, 2147483646 - y]) (P := Fits) _ rfl (by
    intro v hv
    simp only [List.mem_cons, List.not_mem_nil, or_false] at hv
    unfold Fits
    omega)
  refine (l1PickInt_any B c a len cap w2.heap.size 0 13 13 Fits _ (by omega) (by omega) (by omega) (by simp) (by simp; omega) cu3 el).mono ?_
  rintro e w4 ⟨v, rfl, hv, cu4, gr4⟩
  go_wp2_with fail
  go_ret
  exact ⟨_, rfl, hv, cu4, grownBy.trans gr3 gr4⟩

set_option maxRecDepth 100000 in
set_option maxHeartbeats 1600000 in
/-- A new cursor over the bytes of a slice. -/
theorem l1New_any (a : Option Addr) (len cap : Nat) (w : World) (hr : Row w.heap.size w a len) :
    Calls Try.prog 18 #[.slice a len cap] w fun e w' => e = .returned (.pointer (some ⟨w.heap.size, 0, none⟩)) ∧ Cur w.heap.size w' w.heap.size a len cap ∧ Below w.heap.size w w' ∧ w'.heap.size = w.heap.size + 1 := by
  have fin : ∀ h : Int, Fits h → Cur w.heap.size (w.alloc (.cells #[.slice a len cap, .int .i64 0, .int .i64 h] 77)) w.heap.size a len cap := by
    intro h hh
    refine ⟨Nat.le_refl _, hr.keep ((Below.refl _ _).alloc (Nat.le_refl _) _), ?_, ⟨0, Nat.zero_le _, ?_⟩, ⟨h, hh.1, hh.2, ?_⟩, fun j => World.frozen?_alloc_at _ _ _ _ rfl⟩
    · rw [World.cell?_alloc_at _ _ _ _ rfl]; rfl
    · rw [World.cell?_alloc_at _ _ _ _ rfl]; rfl
    · rw [World.cell?_alloc_at _ _ _ _ rfl]; rfl
  have FIN := Lib.hid fin
  obtain ⟨hl, hr⟩ := hr
  unfold maxLen at hl
  have hcell : ∀ k, k < len → ∃ b off, ∃ n : Int, a = some ⟨b, off, none⟩ ∧ 0 ≤ n ∧ n ≤ 255 ∧ w.cell? ⟨b, off + k, none⟩ = some (.int .u8 n) := by
    intro k hk
    rcases hr with h | ⟨b, off, h, _, hc⟩
    · omega
    · obtain ⟨n, n0, n1, hn⟩ := hc k hk
      exact ⟨b, off, n, h, n0, n1, hn⟩
  have HC := Lib.hid hcell
  have w0 := w64 (54343 + (len : Int))
  clear fin hr hcell
  go_enter Try.func18, Try.ntmps18
  go_wp2_with fail
  go_loop [3, 4] (fun x y => ∃ (h : Int) (i : Nat), Fits h ∧ i ≤ len ∧ x = .int .i64 h ∧ y = .int .i64 i) (fun _ y => len - (intOf y).toNat)
  case atStart => exact ⟨_, 0, ⟨by omega, by omega⟩, by omega, rfl, rfl⟩
  case round =>
    obtain ⟨h, i, hf, hi, rfl, rfl⟩ := hrel
    by_cases hlt : i < len ∧ i < 4000
    · obtain ⟨l1, l2⟩ := hlt
      obtain ⟨b, off, n, ha, n0, n1, hn⟩ := HC.out i l1
      obtain rfl := ha
      go_wp2_with fail
      go_round
      case rel => exact ⟨_, i + 1, fits_and30 _, by omega, rfl, by go_num⟩
      case measure => simp [intOf]; omega
    · by_cases l1 : i < len
      · have l2 : ¬ i < 4000 := fun h => hlt ⟨l1, h⟩
        clear hlt
        go_wp2_with fail
        go_ret
        exact ⟨rfl, FIN.out _ hf, (Below.refl _ _).alloc (Nat.le_refl _) _, by simp⟩
      · clear hlt
        go_wp2_with fail
        go_ret
        exact ⟨rfl, FIN.out _ hf, (Below.refl _ _).alloc (Nat.le_refl _) _, by simp⟩

/-- Two numbers; nothing that was there is written. -/
def Pair (w : World) (e : Ending) (w' : World) : Prop := ∃ x y : Int, e = .returned (.tuple #[.int .i64 x, .int .i64 y]) ∧ Fits x ∧ Fits y ∧ Below w.heap.size w w'

set_option maxHeartbeats 800000 in
theorem drawFAdd_any (a : Option Addr) (len cap : Nat) (w : World) (hr : Row w.heap.size w a len) :
    Calls Try.prog 6 #[.slice a len cap] w (Pair w) := by
  go_enter Try.func6, Try.ntmps6
  go_wp2_with fail
  refine (l1New_any a len cap w hr).mono ?_
  rintro e w1 ⟨rfl, cu1, be1, sz1⟩
  go_wp2_with fail
  refine (l1draw_any w.heap.size w.heap.size a len cap w1 be1.size cu1).mono ?_
  rintro e w2 ⟨x, rfl, hx, cu2, gr2⟩
  have be2 := be1.trans (below_of_grown gr2 (Nat.le_refl _) be1.size)
  go_wp2_with fail
  refine (l1draw_any w.heap.size w.heap.size a len cap w2 be2.size cu2).mono ?_
  rintro e w3 ⟨y, rfl, hy, cu3, gr3⟩
  have be3 := be2.trans (below_of_grown gr3 (Nat.le_refl _) be2.size)
  go_wp2_with fail
  go_ret2
  exact ⟨_, _, rfl, hx, hy, be3⟩

end Go.Proofs.Ytcenijdaacbgpaa

/- From what the frame of a law tells of a slice of bytes to what the draws ask. -/
namespace Go.Proofs.Ytcenijdaacbgpaa
open Go.RowKit Go.OpenShut
set_option linter.unusedVariables false

theorem Row.of {w : World} {a : Option Addr} {len cap : Nat} {zs : List Int}
    (h : (a = none ∧ len = 0 ∧ cap = 0 ∧ zs = []) ∨ ∃ x, a = some x ∧ len ≤ cap ∧ cap ≤ maxLen ∧ zs.length = cap ∧ (∀ i, i < zs.length → w.cell? (x.add i) = some (.int .u8 (zs.getD i 0))) ∧ ∀ n ∈ zs, (Lit.int .u8 n).wf = true) : Row w.heap.size w a len := by
  rcases h with ⟨_, h, _, _⟩ | ⟨x, rfl, hl, hm, hz, hc, hw⟩
  · exact ⟨by omega, .inl h⟩
  · refine ⟨Nat.le_trans hl hm, ?_⟩
    by_cases h : len = 0
    · exact .inl h
    · obtain ⟨b, off, rfl, hcc⟩ := ints_at hc (by omega)
      refine .inr ⟨b, off, rfl, World.block_lt_of_cell? w ⟨b, off + 0, none⟩ (hcc 0 (by omega)), fun j hj => ?_⟩
      have hj' : j < zs.length := by omega
      have hm : zs.getD j 0 ∈ zs := by rw [List.getD_eq_getElem?_getD, List.getElem?_eq_getElem hj']; exact List.getElem_mem _
      have hb := bounds_u8 (hw _ hm)
      exact ⟨_, hb.1, hb.2, hcc j hj'⟩
end Go.Proofs.Ytcenijdaacbgpaa
