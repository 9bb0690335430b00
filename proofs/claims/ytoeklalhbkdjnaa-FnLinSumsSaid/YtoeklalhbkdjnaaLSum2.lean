/- The sum of a slice of combinations, and its packing: the program's functions and their models. -/
import Derived.Test.YtoeklalhbkdjnaaB4
import Derived.Test.YtoeklalhbkdjnaaB7
import Derived.Test.YtoeklalhbkdjnaaSpecLin
import Derived.Test.YtoeklalhbkdjnaaB2
import Derived.Deep.DeepCutAuto
namespace Go.Proofs.Ytoeklalhbkdjnaa.L
open Go.RowKit Go.Proofs.Ytoeklalhbkdjnaa.S
set_option linter.unusedVariables false
set_option linter.unusedSimpArgs false

/-- The sum of a list, from acc on. -/
def lsum : List T → List (List T) → List T × Bool
  | acc, [] => (acc, true)
  | acc, a :: r => if lok acc a = true then lsum (lcomb 1 acc a) r else ([], false)
theorem frozen_set_alloc {w : World} {b : Nat} {p : Addr} {u : Value} {o : Obj} (h : w.frozen? ⟨b, 0, none⟩ = false) (hb : b < w.heap.size) : ((w.setCell p u).alloc o).frozen? ⟨b, 0, none⟩ = false :=
  ((Below.alloc (Below.refl _ (w.setCell p u)) (Nat.le_refl _) o).frozen (p := ⟨b, 0, none⟩) (show b < (w.setCell p u).heap.size by rw [World.size_setCell]; exact hb)).trans (by rw [World.frozen?_setCell]; exact h)
theorem lsum_step {acc : List T} {ls : List (List T)} {k : Nat} (hk : k < ls.length) (h : lok acc ls[k] = true) : lsum acc (ls.drop k) = lsum (lcomb 1 acc ls[k]) (ls.drop (k + 1)) := by
  rw [List.drop_eq_getElem_cons hk]; simp [lsum, h]
theorem lsum_stop {acc : List T} {ls : List (List T)} {k : Nat} (hk : k < ls.length) (h : lok acc ls[k] = false) : lsum acc (ls.drop k) = ([], false) := by
  rw [List.drop_eq_getElem_cons hk]; simp [lsum, h]
theorem lsum_len : ∀ (ls : List (List T)) (acc : List T), acc.length ≤ 6000 → (lsum acc ls).1.length ≤ 6000
  | [], acc, h => h
  | a :: r, acc, h => by
    rw [lsum]
    split
    · exact lsum_len r _ (lcomb_len _ _ _)
    · simp
def sumL (ls : List (List T)) : List T × Bool := if 50 < ls.length then ([], false) else lsum [] ls
theorem sumL_len (ls : List (List T)) : (sumL ls).1.length ≤ 6000 := by
  unfold sumL
  split
  · simp
  · exact lsum_len ls [] (by simp)

set_option maxRecDepth 100000 in
set_option maxHeartbeats 1600000 in
theorem linSum_impl (own : Bool) (lo hi : Nat) (v : Value) (ls : List (List T)) (w : World) (t : LinS own lo hi w v ls) (hw : hi ≤ w.heap.size) (hn : ls.length ≤ 1048576) :
    Calls Try.prog 23 #[v] w fun e w' => ∃ u, e = .returned (.tuple #[.agg #[u], .bool (sumL ls).2]) ∧ Below w.heap.size w w' ∧ Terms true w.heap.size w'.heap.size w' u (sumL ls).1 := by
  obtain ⟨a, ka, rfl, la, ba⟩ := t.shape
  by_cases h50 : 50 < ls.length
  · have HS : Hid (sumL ls = ([], false)) := Lib.hid (if_pos h50)
    go_enter Try.func23, Try.ntmps23
    go_wp2_with fail
    rw [HS.out]
    exact bodyPost_ret (v := .tuple #[.agg #[.slice none 0 0], .bool false]) (by simp [results, Try.results23, go_sem]) rfl ⟨_, rfl, by (repeat (with_reducible first | exact bR _ _ | assumption | refine bD ?_ | refine bN ?_ _ | refine bA ?_ _ | refine bS ?_ _)), Terms.nil _ _ _ _⟩
  have HS0 : Hid (sumL ls = lsum [] ls) := Lib.hid (if_neg h50)
  have h51 : ¬ (50 : Int) < (ls.length : Int) := by omega
  go_enter Try.func23, Try.ntmps23
  go_wp2_with fail
  go_loopw [15] (fun i wr => ∃ (k : Nat) (acc : List T) (x : Option Addr) (kx : Nat), k ≤ ls.length ∧ i = .int .i64 k ∧ Below w.heap.size w wr ∧ w.heap.size + 2 ≤ wr.heap.size ∧ wr.cell? ⟨w.heap.size, 0, none⟩ = some (.slice none 0 0) ∧ wr.cell? ⟨w.heap.size + 1, 0, none⟩ = some (.slice x acc.length kx) ∧ wr.frozen? ⟨w.heap.size, 0, none⟩ = false ∧ wr.frozen? ⟨w.heap.size + 1, 0, none⟩ = false ∧ Terms true (w.heap.size + 2) wr.heap.size wr (.slice x acc.length kx) acc ∧ lsum acc (ls.drop k) = lsum [] ls) (fun i _ => ls.length - (intOf i).toNat)
  case atStart => exact ⟨0, [], none, 0, Nat.zero_le _, rfl, by (repeat (with_reducible first | exact bR _ _ | assumption | refine bD ?_ | refine bN ?_ _ | refine bA ?_ _ | refine bS ?_ _)), by simp, by simp, by simp, by simp, by simp, Terms.nil _ _ _ _, rfl⟩
  case round =>
    obtain ⟨k, acc, x, kx, hk, rfl, be, zz, cR, cS, fR, fS, tS, hs⟩ := hrel
    have HS := Lib.hid hs
    clear hs
    obtain ⟨lx, bx⟩ : acc.length ≤ kx ∧ kx ≤ 9223372036854775807 := by obtain ⟨_, _, e, h1, h2⟩ := tS.shape; cases e; exact ⟨h1, h2⟩
    have zb := be.size
    have lw0 : w.heap.size < wr.heap.size := by omega
    have lw1 : w.heap.size + 1 < wr.heap.size := by omega
    by_cases hlt : k < ls.length
    · obtain ⟨b, off, u, rfl, l1, m1, c1, tu⟩ := (t.keep be hw).at hlt
      obtain ⟨y, ky, rfl, ly, bly⟩ := tu.shape
      have bl : b < wr.heap.size := World.block_lt_of_cell? _ _ c1
      go_wp2_with fail
      refine name_call fun w6 hw6 => ?_
      have e6 : Below wr.heap.size wr w6 := by rw [hw6]; (repeat (with_reducible first | exact bR _ _ | assumption | refine bD ?_ | refine bN ?_ _ | refine bA ?_ _ | refine bS ?_ _))
      have z6 : wr.heap.size + 1 ≤ w6.heap.size := by rw [hw6]; simp
      clear hw6
      refine (linAdd_impl _ _ _ _ acc _ _ _ _ ls[k] w6 (tS.keep e6 (Nat.le_refl _)) (by omega) (tu.keep e6 (by omega)) (by omega)).mono ?_; rintro e w7 ⟨u7, rfl, f7, t7⟩
      obtain ⟨z, kz, rfl, lz, bz⟩ := t7.shape
      have z7 := f7.size
      have e7 : Below wr.heap.size wr w7 := e6.trans (f7.mono (by omega))
      have cR7 := cell_keep e7 cR
      have cS7 := cell_keep e7 cS
      have fR7 := (e7.frozen (p := ⟨w.heap.size, 0, none⟩) lw0).trans fR
      have fS7 := (e7.frozen (p := ⟨w.heap.size + 1, 0, none⟩) lw1).trans fS
      have be' : Below w.heap.size w w7 := be.trans (e7.mono zb)
      have m0 : w.heap.size < w7.heap.size := by omega
      have m1' : w.heap.size + 1 < w7.heap.size := by omega
      have cR8 : ∀ o, (w7.alloc o).cell? ⟨w.heap.size, 0, none⟩ = some (.slice none 0 0) := fun o => alloc_keep cR7
      have cS8 : ∀ o, (w7.alloc o).cell? ⟨w.heap.size + 1, 0, none⟩ = some (.slice x acc.length kx) := fun o => alloc_keep cS7
      have R8 := Lib.hid cR8
      have S8 := Lib.hid cS8
      clear cR cS fR fS c1 e6 e7 cR8 cS8
      cases hok : lok acc ls[k]
      · have E : Hid (lsum [] ls = ([], false)) := Lib.hid (by rw [← HS.out]; exact lsum_stop hlt hok)
        clear hok
        go_wp2_with fail
        have cz : ((w7.setCell ⟨w.heap.size, 0, none⟩ (.slice none 0 0)).alloc (.cells #[.slice z (lcomb 1 acc ls[k]).length kz] 25)).cell? ⟨w.heap.size, 0, none⟩ = some (.slice none 0 0) := alloc_keep (World.cell?_setCell_same' w7 ⟨w.heap.size, 0, none⟩ (.slice none 0 0) (by rw [cR7]; rfl))
        rw [HS0.out, E.out]
        exact bodyPost_ret (v := .tuple #[.agg #[.slice none 0 0], .bool false]) (by simp [results, Try.results23, go_sem, cz]) rfl ⟨_, rfl, by (repeat (with_reducible first | exact bR _ _ | assumption | refine bD ?_ | refine bN ?_ _ | refine bA ?_ _ | refine bS ?_ _)), Terms.nil _ _ _ _⟩
      · have E : Hid (lsum (lcomb 1 acc ls[k]) (ls.drop (k + 1)) = lsum [] ls) := Lib.hid (by rw [← HS.out]; exact (lsum_step hlt hok).symm)
        clear hok
        go_wp2_with fail
        have ta := t7.stored (R := w.heap.size + 1) (x := .slice z (lcomb 1 acc ls[k]).length kz) (lo' := w.heap.size + 2) (by omega) (by omega)
        exact ⟨⟨k + 1, lcomb 1 acc ls[k], z, kz, by omega, by go_num, by (repeat (with_reducible first | exact bR _ _ | assumption | refine bD ?_ | refine bN ?_ _ | refine bA ?_ _ | refine bS ?_ _)), by simp; omega, alloc_keep (cell_set1 cR7 (by omega)), alloc_keep (World.cell?_setCell_same' _ _ _ (by rw [cS7]; rfl)), frozen_set_alloc fR7 m0, frozen_set_alloc fS7 m1', (ta.keep (Below.alloc (Below.refl _ _) (Nat.le_refl _) _) (Nat.le_refl _)).mono (Nat.le_refl _) (by simp), E.out⟩, by simp [intOf]; omega⟩
    · have E : Hid (lsum [] ls = (acc, true)) := Lib.hid (by rw [← HS.out, show k = ls.length from by omega]; simp [lsum])
      go_wp2_with fail
      have cz := World.cell?_setCell_same' wr ⟨w.heap.size, 0, none⟩ (.slice x acc.length kx) (by rw [cR]; rfl)
      rw [HS0.out, E.out]
      exact bodyPost_ret (v := .tuple #[.agg #[.slice x acc.length kx], .bool true]) (by simp [results, Try.results23, go_sem, cz]) rfl ⟨_, rfl, Below.setCell be (Nat.le_refl _) _, tS.stored (by omega) (by omega)⟩
end Go.Proofs.Ytoeklalhbkdjnaa.L
