/- The sum of a slice of combinations, and its packing: the program's functions and their models. -/
import Derived.Test.YteekpdlkdpkegaaE2f
import Derived.Test.YteekpdlkdpkegaaGate
import Derived.Test.YteekpdlkdpkegaaSpecLin
import Derived.Test.YteekpdlkdpkegaaSz
import Derived.Deep.DeepCutAuto
namespace Go.Proofs.Yteekpdlkdpkegaa.L
open Go.RowKit Go.Proofs.Yteekpdlkdpkegaa.S
set_option linter.unusedVariables false
set_option linter.unusedSimpArgs false

/-- The sum of a list, from acc on. -/
def lsum : List T → List (List T) → List T × Bool
  | acc, [] => (acc, true)
  | acc, a :: r => if lok acc a = true then lsum (lcomb 1 acc a) r else ([], false)
theorem frozen_set_alloc {w : World} {b : Nat} {p : Addr} {u : Value} {o : Obj} (h : w.frozen? ⟨b, 0, none⟩ = false) (hb : b < w.heap.size) : ((w.setCell p u).alloc o).frozen? ⟨b, 0, none⟩ = false :=
  ((Below.alloc (Below.refl _ (w.setCell p u)) (Nat.le_refl _) o).frozen (p := ⟨b, 0, none⟩) (show b < (w.setCell p u).heap.size by rw [World.size_setCell]; exact hb)).trans (by rw [World.frozen?_setCell]; exact h)
theorem lsum_step {acc : List T} {ls : List (List T)} {k : Nat} (hk : k < ls.length) (h : lok acc ls[k] = true) : lsum acc (ls.drop k) = lsum (lcomb 1 acc ls[k]) (ls.drop (k + 1)) := by
  rw [List.drop_eq_getElem_cons hk]; simp [lsum, h]
theorem lsum_stop {acc : List T} {ls : List (List T)} {k : Nat} (hk : k < ls.length) (h : lok acc ls[k] = false) : lsum acc (ls.drop k) = ([], false) := by
  rw [List.drop_eq_getElem_cons hk]; simp [lsum, h]
theorem lsum_len : ∀ (ls : List (List T)) (acc : List T), acc.length ≤ 6000 → (lsum acc ls).1.length ≤ 6000
  | [], acc, h => h
  | a :: r, acc, h => by
    rw [lsum]
    split
    · exact lsum_len r _ (lcomb_len _ _ _)
    · simp
def sumL (ls : List (List T)) : List T × Bool := if 50 < ls.length then ([], false) else lsum [] ls
theorem sumL_len (ls : List (List T)) : (sumL ls).1.length ≤ 6000 := by
  unfold sumL
  split
  · simp
  · exact lsum_len ls [] (by simp)

set_option maxRecDepth 100000 in
set_option maxHeartbeats 1600000 in
theorem linSum_spec (own : Bool) (lo hi : Nat) (v : Value) (ls : List (List T)) (w : World) (t : LinS own lo hi w v ls) (hw : hi ≤ w.heap.size) (hn : ls.length ≤ 1048576) :
    Calls Try.prog 44 #[v] w fun e w' => ∃ u, e = .returned (.tuple #[.agg #[u], .bool (sumL ls).2]) ∧ Below w.heap.size w w' ∧ Terms true w.heap.size w'.heap.size w' u (sumL ls).1 := by
  obtain ⟨a, ka, rfl, la, ba⟩ := t.shape
  by_cases h50 : 50 < ls.length
  · have HS : Hid (sumL ls = ([], false)) := Lib.hid (if_pos h50)
    go_enter Try.func44, Try.ntmps44
    go_wp2_with fail
    rw [HS.out]
    exact bodyPost_ret (v := .tuple #[.agg #[.slice none 0 0], .bool false]) (by simp [results, Try.results44, go_sem]) rfl ⟨_, rfl, by (repeat (first | with_reducible exact Below.refl _ _ | with_reducible assumption | with_reducible refine Below.drew ?_ | with_reducible refine bdrewN ?_ _ | ((with_reducible refine balloc ?_ ?_ _); (focus (first | with_reducible exact Nat.le_refl _ | (simp; done) | omega | (simp; omega) | exact Nat.le_refl _))) | ((with_reducible refine bset ?_ ?_ _); (focus (first | with_reducible exact Nat.le_refl _ | (simp; done) | omega | (simp; omega) | exact Nat.le_refl _))))), Terms.nil _ _ _ _⟩
  have HS0 : Hid (sumL ls = lsum [] ls) := Lib.hid (if_neg h50)
  have h51 : ¬ (50 : Int) < (ls.length : Int) := by omega
  go_enter Try.func44, Try.ntmps44
  go_wp2_with fail
  go_loopw [5] (fun i wr => ∃ (k : Nat) (acc : List T) (x : Option Addr) (kx : Nat), k ≤ ls.length ∧ i = .int .i64 k ∧ Below w.heap.size w wr ∧ w.heap.size + 2 ≤ wr.heap.size ∧ wr.cell? ⟨w.heap.size, 0, none⟩ = some (.slice none 0 0) ∧ wr.cell? ⟨w.heap.size + 1, 0, none⟩ = some (.slice x acc.length kx) ∧ wr.frozen? ⟨w.heap.size, 0, none⟩ = false ∧ wr.frozen? ⟨w.heap.size + 1, 0, none⟩ = false ∧ Terms true (w.heap.size + 2) wr.heap.size wr (.slice x acc.length kx) acc ∧ lsum acc (ls.drop k) = lsum [] ls) (fun i _ => ls.length - (intOf i).toNat)
  case atStart => exact ⟨0, [], none, 0, Nat.zero_le _, rfl, by (repeat (first | with_reducible exact Below.refl _ _ | with_reducible assumption | with_reducible refine Below.drew ?_ | with_reducible refine bdrewN ?_ _ | ((with_reducible refine balloc ?_ ?_ _); (focus (first | with_reducible exact Nat.le_refl _ | (simp; done) | omega | (simp; omega) | exact Nat.le_refl _))) | ((with_reducible refine bset ?_ ?_ _); (focus (first | with_reducible exact Nat.le_refl _ | (simp; done) | omega | (simp; omega) | exact Nat.le_refl _))))), by simp, by simp, by simp, by simp, by simp, Terms.nil _ _ _ _, rfl⟩
  case round =>
    obtain ⟨k, acc, x, kx, hk, rfl, be, zz, cR, cS, fR, fS, tS, hs⟩ := hrel
    have HS := Lib.hid hs
    clear hs
    obtain ⟨lx, bx⟩ : acc.length ≤ kx ∧ kx ≤ 9223372036854775807 := by obtain ⟨_, _, e, h1, h2⟩ := tS.shape; cases e; exact ⟨h1, h2⟩
    have zb := be.size
    by_cases hlt : k < ls.length
    · obtain ⟨b, off, u, rfl, l1, m1, c1, tu⟩ := (t.keep be hw).at hlt
      obtain ⟨y, ky, rfl, ly, bly⟩ := tu.shape
      have dz : Below wr.heap.size wr wr.drew := (Below.refl _ _).drew
      have zd : wr.heap.size ≤ wr.drew.heap.size := Nat.le_refl _
      have zd' : wr.drew.heap.size ≤ wr.heap.size := Nat.le_refl _
      have e1 := tS.keep dz (Nat.le_refl _)
      have e2 := tu.keep dz (by omega)
      have eS := cell_keep dz cS
      have eC := cell_keep dz c1
      go_wp2_with fail
      go_cut [6, 7] (fun s6 s7 wx => CutW wr (lcomb 1 acc ls[k]) (lok acc ls[k]) s6 s7 wx)
      case first =>
        go_region_held3 (fun w' => w'.cell? ⟨w.heap.size + 1, 0, none⟩ = some (.slice x acc.length kx) ∧ w'.cell? ⟨b, off + k, none⟩ = some (.slice y ls[k].length ky) ∧ Below wr.drew.heap.size wr.drew w') (first | exact ⟨eS, eC, Below.refl _ _⟩ | exact keep2 eS eC (by (repeat (first | exact Below.refl _ _ | assumption | refine Below.alloc ?_ (by first | exact Nat.le_refl _ | exact Below.size (by assumption) | (simp; done) | omega | (simp; omega)) _ | refine Below.setCell ?_ (by first | exact Nat.le_refl _ | exact Below.size (by assumption) | (simp; done) | omega | (simp; omega)) _))))
          (first
            | (go_at_call 98; refine (linAdd_spec _ _ _ _ _ _ _ _ _ _ _ (e1.keep (B := wr.drew.heap.size) (by (repeat (first | exact Below.refl _ _ | assumption | refine Below.alloc ?_ (by first | exact Nat.le_refl _ | exact Below.size (by assumption) | (simp; done) | omega | (simp; omega)) _ | refine Below.setCell ?_ (by first | exact Nat.le_refl _ | exact Below.size (by assumption) | (simp; done) | omega | (simp; omega)) _))) (Nat.le_refl _)) (Below.size (B := wr.drew.heap.size) (by (repeat (first | exact Below.refl _ _ | assumption | refine Below.alloc ?_ (by first | exact Nat.le_refl _ | exact Below.size (by assumption) | (simp; done) | omega | (simp; omega)) _ | refine Below.setCell ?_ (by first | exact Nat.le_refl _ | exact Below.size (by assumption) | (simp; done) | omega | (simp; omega)) _)))) (e2.keep (B := wr.drew.heap.size) (by (repeat (first | exact Below.refl _ _ | assumption | refine Below.alloc ?_ (by first | exact Nat.le_refl _ | exact Below.size (by assumption) | (simp; done) | omega | (simp; omega)) _ | refine Below.setCell ?_ (by first | exact Nat.le_refl _ | exact Below.size (by assumption) | (simp; done) | omega | (simp; omega)) _))) (by omega)) (Nat.le_trans (show hi ≤ wr.drew.heap.size by omega) (Below.size (B := wr.drew.heap.size) (by (repeat (first | exact Below.refl _ _ | assumption | refine Below.alloc ?_ (by first | exact Nat.le_refl _ | exact Below.size (by assumption) | (simp; done) | omega | (simp; omega)) _ | refine Below.setCell ?_ (by first | exact Nat.le_refl _ | exact Below.size (by assumption) | (simp; done) | omega | (simp; omega)) _)))))).mono ?_; rintro e p2 ⟨q2, rfl, g2, r2⟩; obtain ⟨am2, km2, rfl, lm2, bm2⟩ := r2.shape; have G2 := chain_step g2 (show Below wr.drew.heap.size wr.drew _ by (repeat (first | exact Below.refl _ _ | assumption | refine Below.alloc ?_ (by first | exact Nat.le_refl _ | exact Below.size (by assumption) | (simp; done) | omega | (simp; omega)) _ | refine Below.setCell ?_ (by first | exact Nat.le_refl _ | exact Below.size (by assumption) | (simp; done) | omega | (simp; omega)) _))); have ⟨hc2, hf2⟩ := bcell g2))
        all_goals go_wp2_with fail
        all_goals go_meet
        all_goals (first | exact cutW_alloc dz G2 r2 (by first | omega | (simp; done) | (simp; omega)) | exact cutW_set dz G2 r2 (by first | omega | (simp; done) | (simp; omega)) (by first | omega | (simp; done) | (simp; omega)) (by simp (disch := first | omega | (simp; done) | (simp; omega)) [hc2]))
      case rest =>
        obtain ⟨g, aW, kW, rfl, rfl, hg, cW, b0, tW⟩ := hcut
        have lg : g < wc.heap.size := World.block_lt_of_cell? wc _ cW
        have z0 := b0.size
        have be' : Below w.heap.size w wc := be.trans (b0.mono zb)
        have cR' := cell_keep b0 cR
        have cS' := cell_keep b0 cS
        have fR' := (b0.frozen (p := ⟨w.heap.size, 0, none⟩) (show w.heap.size < wr.heap.size by omega)).trans fR
        have fS' := (b0.frozen (p := ⟨w.heap.size + 1, 0, none⟩) (show w.heap.size + 1 < wr.heap.size by omega)).trans fS
        clear cR cS fR fS e1 e2 eS eC c1
        cases hok : lok acc ls[k]
        · have E : Hid (lsum [] ls = ([], false)) := Lib.hid (by rw [← HS.out]; exact lsum_stop hlt hok)
          clear hok
          go_wp2_with fail
          have cz := World.cell?_setCell_same' wc ⟨w.heap.size, 0, none⟩ (.slice none 0 0) (by rw [cR']; rfl)
          rw [HS0.out, E.out]
          exact bodyPost_ret (v := .tuple #[.agg #[.slice none 0 0], .bool false]) (by simp [results, Try.results44, go_sem, cz]) rfl ⟨_, rfl, Below.setCell be' (Nat.le_refl _) _, Terms.nil _ _ _ _⟩
        · have E : Hid (lsum (lcomb 1 acc ls[k]) (ls.drop (k + 1)) = lsum [] ls) := Lib.hid (by rw [← HS.out]; exact (lsum_step hlt hok).symm)
          clear hok
          go_wp2_with fail
          exact ⟨⟨k + 1, lcomb 1 acc ls[k], aW, kW, by omega, by go_num, Below.setCell be' (Nat.le_succ _) _, by simp; omega, cell_set1 cR' (by omega), World.cell?_setCell_same' _ _ _ (by rw [cS']; rfl), by simp [fR'], by simp [fS'], tW.stored (by omega) (by omega), E.out⟩, by simp [intOf]; omega⟩
    · have E : Hid (lsum [] ls = (acc, true)) := Lib.hid (by rw [← HS.out, show k = ls.length from by omega]; simp [lsum])
      go_wp2_with fail
      have cz := World.cell?_setCell_same' wr ⟨w.heap.size, 0, none⟩ (.slice x acc.length kx) (by rw [cR]; rfl)
      rw [HS0.out, E.out]
      exact bodyPost_ret (v := .tuple #[.agg #[.slice x acc.length kx], .bool true]) (by simp [results, Try.results44, go_sem, cz]) rfl ⟨_, rfl, Below.setCell be (Nat.le_refl _) _, tS.stored (by omega) (by omega)⟩

set_option maxRecDepth 100000 in
set_option maxHeartbeats 1600000 in
theorem linSum_impl (own : Bool) (lo hi : Nat) (v : Value) (ls : List (List T)) (w : World) (t : LinS own lo hi w v ls) (hw : hi ≤ w.heap.size) (hn : ls.length ≤ 1048576) :
    Calls Try.prog 45 #[v] w fun e w' => ∃ u, e = .returned (.tuple #[.agg #[u], .bool (sumL ls).2]) ∧ Below w.heap.size w w' ∧ Terms true w.heap.size w'.heap.size w' u (sumL ls).1 := by
  obtain ⟨a, ka, rfl, la, ba⟩ := t.shape
  by_cases h50 : 50 < ls.length
  · have HS : Hid (sumL ls = ([], false)) := Lib.hid (if_pos h50)
    go_enter Try.func45, Try.ntmps45
    go_wp2_with fail
    rw [HS.out]
    exact bodyPost_ret (v := .tuple #[.agg #[.slice none 0 0], .bool false]) (by simp [results, Try.results45, go_sem]) rfl ⟨_, rfl, by (repeat (first | with_reducible exact Below.refl _ _ | with_reducible assumption | with_reducible refine Below.drew ?_ | with_reducible refine bdrewN ?_ _ | ((with_reducible refine balloc ?_ ?_ _); (focus (first | with_reducible exact Nat.le_refl _ | (simp; done) | omega | (simp; omega) | exact Nat.le_refl _))) | ((with_reducible refine bset ?_ ?_ _); (focus (first | with_reducible exact Nat.le_refl _ | (simp; done) | omega | (simp; omega) | exact Nat.le_refl _))))), Terms.nil _ _ _ _⟩
  have HS0 : Hid (sumL ls = lsum [] ls) := Lib.hid (if_neg h50)
  have h51 : ¬ (50 : Int) < (ls.length : Int) := by omega
  go_enter Try.func45, Try.ntmps45
  go_wp2_with fail
  go_loopw [15] (fun i wr => ∃ (k : Nat) (acc : List T) (x : Option Addr) (kx : Nat), k ≤ ls.length ∧ i = .int .i64 k ∧ Below w.heap.size w wr ∧ w.heap.size + 2 ≤ wr.heap.size ∧ wr.cell? ⟨w.heap.size, 0, none⟩ = some (.slice none 0 0) ∧ wr.cell? ⟨w.heap.size + 1, 0, none⟩ = some (.slice x acc.length kx) ∧ wr.frozen? ⟨w.heap.size, 0, none⟩ = false ∧ wr.frozen? ⟨w.heap.size + 1, 0, none⟩ = false ∧ Terms true (w.heap.size + 2) wr.heap.size wr (.slice x acc.length kx) acc ∧ lsum acc (ls.drop k) = lsum [] ls) (fun i _ => ls.length - (intOf i).toNat)
  case atStart => exact ⟨0, [], none, 0, Nat.zero_le _, rfl, by (repeat (first | with_reducible exact Below.refl _ _ | with_reducible assumption | with_reducible refine Below.drew ?_ | with_reducible refine bdrewN ?_ _ | ((with_reducible refine balloc ?_ ?_ _); (focus (first | with_reducible exact Nat.le_refl _ | (simp; done) | omega | (simp; omega) | exact Nat.le_refl _))) | ((with_reducible refine bset ?_ ?_ _); (focus (first | with_reducible exact Nat.le_refl _ | (simp; done) | omega | (simp; omega) | exact Nat.le_refl _))))), by simp, by simp, by simp, by simp, by simp, Terms.nil _ _ _ _, rfl⟩
  case round =>
    obtain ⟨k, acc, x, kx, hk, rfl, be, zz, cR, cS, fR, fS, tS, hs⟩ := hrel
    have HS := Lib.hid hs
    clear hs
    obtain ⟨lx, bx⟩ : acc.length ≤ kx ∧ kx ≤ 9223372036854775807 := by obtain ⟨_, _, e, h1, h2⟩ := tS.shape; cases e; exact ⟨h1, h2⟩
    have zb := be.size
    have lw0 : w.heap.size < wr.heap.size := by omega
    have lw1 : w.heap.size + 1 < wr.heap.size := by omega
    by_cases hlt : k < ls.length
    · obtain ⟨b, off, u, rfl, l1, m1, c1, tu⟩ := (t.keep be hw).at hlt
      obtain ⟨y, ky, rfl, ly, bly⟩ := tu.shape
      have bl : b < wr.heap.size := World.block_lt_of_cell? _ _ c1
      go_wp2_with fail
      refine name_call fun w6 hw6 => ?_
      have e6 : Below wr.heap.size wr w6 := by rw [hw6]; (repeat (first | with_reducible exact Below.refl _ _ | with_reducible assumption | with_reducible refine Below.drew ?_ | with_reducible refine bdrewN ?_ _ | ((with_reducible refine balloc ?_ ?_ _); (focus (first | with_reducible exact Nat.le_refl _ | (simp; done) | omega | (simp; omega) | exact Nat.le_refl _))) | ((with_reducible refine bset ?_ ?_ _); (focus (first | with_reducible exact Nat.le_refl _ | (simp; done) | omega | (simp; omega) | exact Nat.le_refl _)))))
      have z6 : wr.heap.size + 1 ≤ w6.heap.size := by rw [hw6]; simp
      clear hw6
      refine (linAdd_impl _ _ _ _ acc _ _ _ _ ls[k] w6 (tS.keep e6 (Nat.le_refl _)) (by omega) (tu.keep e6 (by omega)) (by omega)).mono ?_; rintro e w7 ⟨u7, rfl, f7, t7⟩
      obtain ⟨z, kz, rfl, lz, bz⟩ := t7.shape
      have z7 := f7.size
      have e7 : Below wr.heap.size wr w7 := e6.trans (f7.mono (by omega))
      have cR7 := cell_keep e7 cR
      have cS7 := cell_keep e7 cS
      have fR7 := (e7.frozen (p := ⟨w.heap.size, 0, none⟩) lw0).trans fR
      have fS7 := (e7.frozen (p := ⟨w.heap.size + 1, 0, none⟩) lw1).trans fS
      have be' : Below w.heap.size w w7 := be.trans (e7.mono zb)
      have m0 : w.heap.size < w7.heap.size := by omega
      have m1' : w.heap.size + 1 < w7.heap.size := by omega
      have cR8 : ∀ o, (w7.alloc o).cell? ⟨w.heap.size, 0, none⟩ = some (.slice none 0 0) := fun o => alloc_keep cR7
      have cS8 : ∀ o, (w7.alloc o).cell? ⟨w.heap.size + 1, 0, none⟩ = some (.slice x acc.length kx) := fun o => alloc_keep cS7
      have R8 := Lib.hid cR8
      have S8 := Lib.hid cS8
      clear cR cS fR fS c1 e6 e7 cR8 cS8
      cases hok : lok acc ls[k]
      · have E : Hid (lsum [] ls = ([], false)) := Lib.hid (by rw [← HS.out]; exact lsum_stop hlt hok)
        clear hok
        go_wp2_with fail
        have cz : ((w7.setCell ⟨w.heap.size, 0, none⟩ (.slice none 0 0)).alloc (.cells #[.slice z (lcomb 1 acc ls[k]).length kz] 39)).cell? ⟨w.heap.size, 0, none⟩ = some (.slice none 0 0) := alloc_keep (World.cell?_setCell_same' w7 ⟨w.heap.size, 0, none⟩ (.slice none 0 0) (by rw [cR7]; rfl))
        rw [HS0.out, E.out]
        exact bodyPost_ret (v := .tuple #[.agg #[.slice none 0 0], .bool false]) (by simp [results, Try.results45, go_sem, cz]) rfl ⟨_, rfl, by (repeat (first | with_reducible exact Below.refl _ _ | with_reducible assumption | with_reducible refine Below.drew ?_ | with_reducible refine bdrewN ?_ _ | ((with_reducible refine balloc ?_ ?_ _); (focus (first | with_reducible exact Nat.le_refl _ | (simp; done) | omega | (simp; omega) | exact Nat.le_refl _))) | ((with_reducible refine bset ?_ ?_ _); (focus (first | with_reducible exact Nat.le_refl _ | (simp; done) | omega | (simp; omega) | exact Nat.le_refl _))))), Terms.nil _ _ _ _⟩
      · have E : Hid (lsum (lcomb 1 acc ls[k]) (ls.drop (k + 1)) = lsum [] ls) := Lib.hid (by rw [← HS.out]; exact (lsum_step hlt hok).symm)
        clear hok
        go_wp2_with fail
        have ta := t7.stored (R := w.heap.size + 1) (x := .slice z (lcomb 1 acc ls[k]).length kz) (lo' := w.heap.size + 2) (by omega) (by omega)
        exact ⟨⟨k + 1, lcomb 1 acc ls[k], z, kz, by omega, by go_num, by (repeat (first | with_reducible exact Below.refl _ _ | with_reducible assumption | with_reducible refine Below.drew ?_ | with_reducible refine bdrewN ?_ _ | ((with_reducible refine balloc ?_ ?_ _); (focus (first | with_reducible exact Nat.le_refl _ | (simp; done) | omega | (simp; omega) | exact Nat.le_refl _))) | ((with_reducible refine bset ?_ ?_ _); (focus (first | with_reducible exact Nat.le_refl _ | (simp; done) | omega | (simp; omega) | exact Nat.le_refl _))))), by simp; omega, alloc_keep (cell_set1 cR7 (by omega)), alloc_keep (World.cell?_setCell_same' _ _ _ (by rw [cS7]; rfl)), frozen_set_alloc fR7 m0, frozen_set_alloc fS7 m1', (ta.keep (Below.alloc (Below.refl _ _) (Nat.le_refl _) _) (Nat.le_refl _)).mono (Nat.le_refl _) (by simp), E.out⟩, by simp [intOf]; omega⟩
    · have E : Hid (lsum [] ls = (acc, true)) := Lib.hid (by rw [← HS.out, show k = ls.length from by omega]; simp [lsum])
      go_wp2_with fail
      have cz := World.cell?_setCell_same' wr ⟨w.heap.size, 0, none⟩ (.slice x acc.length kx) (by rw [cR]; rfl)
      rw [HS0.out, E.out]
      exact bodyPost_ret (v := .tuple #[.agg #[.slice x acc.length kx], .bool true]) (by simp [results, Try.results45, go_sem, cz]) rfl ⟨_, rfl, Below.setCell be (Nat.le_refl _) _, tS.stored (by omega) (by omega)⟩
end Go.Proofs.Yteekpdlkdpkegaa.L
