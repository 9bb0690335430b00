/- B24: LSum2 Pack -/
import Derived.Test.YtcenijdaacbgpaaB4
import Derived.Test.YtcenijdaacbgpaaB7
import Derived.Test.YtcenijdaacbgpaaB23
import Derived.Test.YtcenijdaacbgpaaB2
import Derived.Deep.DeepCutAuto
import Derived.Test.YtcenijdaacbgpaaB3
import Derived.Test.YtcenijdaacbgpaaB8
set_option linter.unusedVariables false
set_option linter.unusedSimpArgs false
/- The sum of a slice of combinations, and its packing: the program's functions and their models. -/
namespace Go.Proofs.Ytcenijdaacbgpaa.L
open Go.RowKit Go.Proofs.Ytcenijdaacbgpaa.S
set_option linter.unusedVariables false
set_option linter.unusedSimpArgs false

/-- The sum of a list, from acc on. -/
def lsum : List T → List (List T) → List T × Bool
  | acc, [] => (acc, true)
  | acc, a :: r => if lok acc a = true then lsum (lcomb 1 acc a) r else ([], false)
theorem frozen_set_alloc {w : World} {b : Nat} {p : Addr} {u : Value} {o : Obj} (h : w.frozen? ⟨b, 0, none⟩ = false) (hb : b < w.heap.size) : ((w.setCell p u).alloc o).frozen? ⟨b, 0, none⟩ = false :=
  ((Below.alloc (Below.refl _ (w.setCell p u)) (Nat.le_refl _) o).frozen (p := ⟨b, 0, none⟩) (show b < (w.setCell p u).heap.size by rw [World.size_setCell]; exact hb)).trans (by rw [World.frozen?_setCell]; exact h)
theorem lsum_step {acc : List T} {ls : List (List T)} {k : Nat} (hk : k < ls.length) (h : lok acc ls[k] = true) : lsum acc (ls.drop k) = lsum (lcomb 1 acc ls[k]) (ls.drop (k + 1)) := by
  rw [List.drop_eq_getElem_cons hk]; simp [lsum, h]
theorem lsum_stop {acc : List T} {ls : List (List T)} {k : Nat} (hk : k < ls.length) (h : lok acc ls[k] = false) : lsum acc (ls.drop k) = ([], false) := by
  rw [List.drop_eq_getElem_cons hk]; simp [lsum, h]
theorem lsum_len : ∀ (ls : List (List T)) (acc : List T), acc.length ≤ 6000 → (lsum acc ls).1.length ≤ 6000
  | [], acc, h => h
  | a :: r, acc, h => by
    rw [lsum]
    split
    · exact lsum_len r _ (lcomb_len _ _ _)
    · simp
def sumL (ls : List (List T)) : List T × Bool := if 50 < ls.length then ([], false) else lsum [] ls
theorem sumL_len (ls : List (List T)) : (sumL ls).1.length ≤ 6000 := by
  unfold sumL
  split
  · simp
  · exact lsum_len ls [] (by simp)

end Go.Proofs.Ytcenijdaacbgpaa.L

/- Packing: the sum of a slice of combinations times powers of two. -/
namespace Go.Proofs.Ytcenijdaacbgpaa.L
open Go.RowKit Go.Proofs.Ytcenijdaacbgpaa.S
set_option linter.unusedVariables false
set_option linter.unusedSimpArgs false

/-- The program's sum, from element i on. -/
def psum : Nat → List T → List (List T) → List T × Bool
  | _, acc, [] => (acc, true)
  | i, acc, b :: r => if lok acc b = true then psum (i + 1) (lcomb ((2 : Int) ^ i) acc b) r else ([], false)
theorem psum_step {acc : List T} {ls : List (List T)} {k : Nat} (hk : k < ls.length) (h : lok acc ls[k] = true) : psum k acc (ls.drop k) = psum (k + 1) (lcomb ((2 : Int) ^ k) acc ls[k]) (ls.drop (k + 1)) := by
  rw [List.drop_eq_getElem_cons hk]; simp [psum, h]
theorem psum_stop {acc : List T} {ls : List (List T)} {k : Nat} (hk : k < ls.length) (h : lok acc ls[k] = false) : psum k acc (ls.drop k) = ([], false) := by
  rw [List.drop_eq_getElem_cons hk]; simp [psum, h]
theorem psum_all : ∀ (ls : List (List T)) (i : Nat) (acc : List T), linOk acc = true → psum i acc ls = if ls.all linOk = true then (packF mrg i acc ls, true) else ([], false)
  | [], i, acc, _ => rfl
  | b :: r, i, acc, h => by
    rw [psum, packF]
    cases hb : linOk b
    · have : lok acc b = false := by simp [lok, h, hb]
      simp [this, hb]
    · have h1 : lok acc b = true := by simp [lok, h, hb]
      have h2 : lcomb ((2 : Int) ^ i) acc b = mrg ((2 : Int) ^ i) acc b := (lcomb_yes h hb).1
      rw [if_pos h1, h2, psum_all r (i + 1) _ (linOk_mrg h hb)]
      simp [hb]
/-- What Pack answers. -/
def packR (ls : List (List T)) : List T × Bool := (packL ls, packOk ls)
theorem packR_big {ls : List (List T)} (h : 30 < ls.length) : packR ls = ([], false) := by
  have : packOk ls = false := by unfold packOk; simp; omega
  unfold packR packL; simp [this]
theorem packR_sum {ls : List (List T)} (h : ¬ 30 < ls.length) : packR ls = psum 0 [] ls := by
  rw [psum_all ls 0 [] (by simp [linOk, okFrom])]
  unfold packR packL packOk packS
  have : decide (ls.length ≤ 30) = true := decide_eq_true (by omega)
  simp only [this, Bool.true_and]
  cases ls.all linOk <;> simp
theorem psum_len : ∀ (ls : List (List T)) (i : Nat) (acc : List T), acc.length ≤ 6000 → (psum i acc ls).1.length ≤ 6000
  | [], i, acc, h => h
  | a :: r, i, acc, h => by
    rw [psum]
    split
    · exact psum_len r _ _ (lcomb_len _ _ _)
    · simp
theorem packR_len (ls : List (List T)) : (packR ls).1.length ≤ 6000 := by
  by_cases h : 30 < ls.length
  · rw [packR_big h]; simp
  · rw [packR_sum h]; exact psum_len ls 0 [] (by simp)
theorem pow_lt : ∀ {i : Nat}, i < 30 → (1 : Int) ≤ (2 : Int) ^ i ∧ (2 : Int) ^ i ≤ 536870912 := by
  intro i h
  have h1 : (2 : Nat) ^ i ≤ 2 ^ 29 := Nat.pow_le_pow_right (by omega) (by omega)
  have h2 : 1 ≤ (2 : Nat) ^ i := Nat.one_le_two_pow
  have e : ((2 : Int) ^ i) = (((2 : Nat) ^ i : Nat) : Int) := by push_cast; rfl
  rw [e]; omega

set_option maxRecDepth 100000 in
set_option maxHeartbeats 3200000 in
theorem pack_impl (own : Bool) (lo hi : Nat) (v : Value) (ls : List (List T)) (w : World) (t : LinS own lo hi w v ls) (hw : hi ≤ w.heap.size) (hn : ls.length ≤ 1048576) :
    Calls Try.prog 13 #[v] w fun e w' => ∃ u, e = .returned (.tuple #[.agg #[u], .bool (packR ls).2]) ∧ Below w.heap.size w w' ∧ Terms true w.heap.size w'.heap.size w' u (packR ls).1 := by
  obtain ⟨a, ka, rfl, la, ba⟩ := t.shape
  by_cases h50 : 30 < ls.length
  · have HS : Hid (packR ls = ([], false)) := Lib.hid (packR_big h50)
    go_enter Try.func13, Try.ntmps13
    go_wp2_with fail
    rw [HS.out]
    exact bodyPost_ret (v := .tuple #[.agg #[.slice none 0 0], .bool false]) (by simp [results, Try.results13, go_sem]) rfl ⟨_, rfl, by (repeat (with_reducible first | exact bR _ _ | assumption | refine bD ?_ | refine bN ?_ _ | refine bA ?_ _ | refine bS ?_ _)), Terms.nil _ _ _ _⟩
  have HS0 : Hid (packR ls = psum 0 [] ls) := Lib.hid (packR_sum h50)
  have h51 : ¬ (30 : Int) < (ls.length : Int) := by omega
  go_enter Try.func13, Try.ntmps13
  go_wp2_with fail
  go_loopw [15] (fun i wr => ∃ (k : Nat) (acc : List T) (x : Option Addr) (kx : Nat), k ≤ ls.length ∧ i = .int .i64 k ∧ Below w.heap.size w wr ∧ w.heap.size + 2 ≤ wr.heap.size ∧ wr.cell? ⟨w.heap.size, 0, none⟩ = some (.slice none 0 0) ∧ wr.cell? ⟨w.heap.size + 1, 0, none⟩ = some (.slice x acc.length kx) ∧ wr.frozen? ⟨w.heap.size, 0, none⟩ = false ∧ wr.frozen? ⟨w.heap.size + 1, 0, none⟩ = false ∧ Terms true (w.heap.size + 2) wr.heap.size wr (.slice x acc.length kx) acc ∧ psum k acc (ls.drop k) = psum 0 [] ls) (fun i _ => ls.length - (intOf i).toNat)
  case atStart => exact ⟨0, [], none, 0, Nat.zero_le _, rfl, by (repeat (with_reducible first | exact bR _ _ | assumption | refine bD ?_ | refine bN ?_ _ | refine bA ?_ _ | refine bS ?_ _)), by simp, by simp, by simp, by simp, by simp, Terms.nil _ _ _ _, rfl⟩
  case round =>
    obtain ⟨k, acc, x, kx, hk, rfl, be, zz, cR, cS, fR, fS, tS, hs⟩ := hrel
    have HS := Lib.hid hs
    clear hs
    obtain ⟨lx, bx⟩ : acc.length ≤ kx ∧ kx ≤ 9223372036854775807 := by obtain ⟨_, _, e, h1, h2⟩ := tS.shape; cases e; exact ⟨h1, h2⟩
    have zb := be.size
    have lw0 : w.heap.size < wr.heap.size := by omega
    have lw1 : w.heap.size + 1 < wr.heap.size := by omega
    by_cases hlt : k < ls.length
    · obtain ⟨b, off, u, rfl, l1, m1, c1, tu⟩ := (t.keep be hw).at hlt
      obtain ⟨y, ky, rfl, ly, bly⟩ := tu.shape
      have bl : b < wr.heap.size := World.block_lt_of_cell? _ _ c1
      obtain ⟨p1, p2⟩ := pow_lt (show k < 30 by omega)
      have hk30 : (k : Int) < 64 := by omega
      go_wp2_with fail
      refine name_wp fun w6 hw6 => ?_
      have e6 : Below wr.heap.size wr w6 := by rw [hw6]; (repeat (with_reducible first | exact bR _ _ | assumption | refine bD ?_ | refine bN ?_ _ | refine bA ?_ _ | refine bS ?_ _))
      have z6 : wr.heap.size + 1 ≤ w6.heap.size := by rw [hw6]; simp
      have cE6 : w6.cell? ⟨wr.heap.size, 0, none⟩ = some (.slice y ls[k].length ky) := by rw [hw6]; first | (simp; done) | go_simp
      have cS6 := cell_keep e6 cS
      have cR6 := cell_keep e6 cR
      have fR6 := (e6.frozen (p := ⟨w.heap.size, 0, none⟩) lw0).trans fR
      have fS6 := (e6.frozen (p := ⟨w.heap.size + 1, 0, none⟩) lw1).trans fS
      have tS6 := tS.keep e6 (Nat.le_refl _)
      have tu6 := tu.keep e6 (show hi ≤ wr.heap.size by omega)
      have dz : Below w6.heap.size w6 w6 := Below.refl _ _
      have KK : Hid (∀ w', Below w6.heap.size w6 w' → w'.cell? ⟨w.heap.size + 1, 0, none⟩ = some (.slice x acc.length kx) ∧ w'.cell? ⟨wr.heap.size, 0, none⟩ = some (.slice y ls[k].length ky) ∧ Below w6.heap.size w6 w') := Lib.hid fun w' h => ⟨cell_keep h cS6, cell_keep h cE6, h⟩
      have be6 : Below w.heap.size w w6 := be.trans (e6.mono zb)
      clear hw6 cR cS fR fS c1 tS tu
      have p3 : (2 : Int) ^ k % 2147483647 = (2 : Int) ^ k := Int.emod_eq_of_lt (by omega) (by omega)
      have P3 := Lib.hid p3
      clear p3
      go_cut [7, 8] (fun s7 s8 wx => CutW w6 (lcomb ((2 : Int) ^ k) acc ls[k]) (lok acc ls[k]) s7 s8 wx)
      case first =>
        have wsh : IntKind.i64.wrap ((2 : Int) ^ k) = (2 : Int) ^ k := IntWalk.i64_in _ (by omega)
        go_region_held3 (fun w' => w'.cell? ⟨w.heap.size + 1, 0, none⟩ = some (.slice x acc.length kx) ∧ w'.cell? ⟨wr.heap.size, 0, none⟩ = some (.slice y ls[k].length ky) ∧ Below w6.heap.size w6 w') (exact KK.out _ (by (repeat (with_reducible first | exact bR _ _ | assumption | refine bD ?_ | refine bN ?_ _ | refine bA ?_ _ | refine bS ?_ _))))
          (first
            | (go_at_call 29; (with_reducible refine (elemOf_any ((2 : Int) ^ k) _ (by omega) (by omega)).mono ?_); rw [P3.out]; rintro e w' ⟨rfl, rfl⟩)
            | (go_at_call 28; (with_reducible refine (combine_impl _ _ _ _ acc _ _ _ _ ls[k] ((2 : Int) ^ k) _ (tS6.keep (B := w6.heap.size) (by (repeat (with_reducible first | exact bR _ _ | assumption | refine bD ?_ | refine bN ?_ _ | refine bA ?_ _ | refine bS ?_ _))) (by omega)) (Nat.le_trans (show wr.heap.size ≤ w6.heap.size by omega) (Below.size (B := w6.heap.size) (by (repeat (with_reducible first | exact bR _ _ | assumption | refine bD ?_ | refine bN ?_ _ | refine bA ?_ _ | refine bS ?_ _))))) (tu6.keep (B := w6.heap.size) (by (repeat (with_reducible first | exact bR _ _ | assumption | refine bD ?_ | refine bN ?_ _ | refine bA ?_ _ | refine bS ?_ _))) (by omega)) (Nat.le_trans (show hi ≤ w6.heap.size by omega) (Below.size (B := w6.heap.size) (by (repeat (with_reducible first | exact bR _ _ | assumption | refine bD ?_ | refine bN ?_ _ | refine bA ?_ _ | refine bS ?_ _))))) (by omega) (by omega)).mono ?_); rintro e y2 ⟨u, rfl, j2, r2⟩; obtain ⟨au, ku, rfl, lu, bu⟩ := r2.shape; have G2 : Below w6.heap.size w6 y2 := Below.trans (by (repeat (with_reducible first | exact bR _ _ | assumption | refine bD ?_ | refine bN ?_ _ | refine bA ?_ _ | refine bS ?_ _))) (j2.mono (Below.size (B := w6.heap.size) (by (repeat (with_reducible first | exact bR _ _ | assumption | refine bD ?_ | refine bN ?_ _ | refine bA ?_ _ | refine bS ?_ _))))); have Y2 := G2.size; have ⟨hc2, hf2⟩ := bcell j2; have S2 := j2.size; (try simp at S2)))
        all_goals go_wp2_with fail
        all_goals go_meet
        all_goals (first | exact cutW_alloc dz G2 r2 (Below.size (B := w6.heap.size) (by (repeat (with_reducible first | exact bR _ _ | assumption | refine bD ?_ | refine bN ?_ _ | refine bA ?_ _ | refine bS ?_ _)))) | exact cutW_set dz G2 r2 (by first | omega | (simp; done) | (simp; omega)) (by first | omega | (simp; done) | (simp; omega)) (by simp (disch := first | omega | (simp; done) | (simp; omega)) [*]))
      case rest =>
        obtain ⟨g, z, kz, rfl, rfl, hg, cW, b0, t7⟩ := hcut
        have lg : g < wc.heap.size := World.block_lt_of_cell? wc _ cW
        have z0 := b0.size
        have be' : Below w.heap.size w wc := be6.trans (b0.mono (by omega))
        have cR' := cell_keep b0 cR6
        have cS' := cell_keep b0 cS6
        have fR' := (b0.frozen (p := ⟨w.heap.size, 0, none⟩) (show w.heap.size < w6.heap.size by omega)).trans fR6
        have fS' := (b0.frozen (p := ⟨w.heap.size + 1, 0, none⟩) (show w.heap.size + 1 < w6.heap.size by omega)).trans fS6
        clear cR6 cS6 fR6 fS6 KK dz cE6 tS6 tu6
        cases hok : lok acc ls[k]
        · have E : Hid (psum 0 [] ls = ([], false)) := Lib.hid (by rw [← HS.out]; exact psum_stop hlt hok)
          clear hok
          go_wp2_with fail
          have cz := World.cell?_setCell_same' wc ⟨w.heap.size, 0, none⟩ (.slice none 0 0) (by rw [cR']; rfl)
          rw [HS0.out, E.out]
          exact bodyPost_ret (v := .tuple #[.agg #[.slice none 0 0], .bool false]) (by simp [results, Try.results13, go_sem, cz]) rfl ⟨_, rfl, Below.setCell be' (Nat.le_refl _) _, Terms.nil _ _ _ _⟩
        · have E : Hid (psum (k + 1) (lcomb ((2 : Int) ^ k) acc ls[k]) (ls.drop (k + 1)) = psum 0 [] ls) := Lib.hid (by rw [← HS.out]; exact (psum_step hlt hok).symm)
          clear hok
          go_wp2_with fail
          exact ⟨⟨k + 1, lcomb ((2 : Int) ^ k) acc ls[k], z, kz, by omega, by go_num, Below.setCell be' (Nat.le_succ _) _, by simp; omega, cell_set1 cR' (by omega), World.cell?_setCell_same' _ _ _ (by rw [cS']; rfl), by simp [fR'], by simp [fS'], t7.stored (by omega) (by omega), E.out⟩, by simp [intOf]; omega⟩
    · have E : Hid (psum 0 [] ls = (acc, true)) := Lib.hid (by rw [← HS.out, show k = ls.length from by omega]; simp [psum])
      go_wp2_with fail
      have cz := World.cell?_setCell_same' wr ⟨w.heap.size, 0, none⟩ (.slice x acc.length kx) (by rw [cR]; rfl)
      rw [HS0.out, E.out]
      exact bodyPost_ret (v := .tuple #[.agg #[.slice x acc.length kx], .bool true]) (by simp [results, Try.results13, go_sem, cz]) rfl ⟨_, rfl, Below.setCell be (Nat.le_refl _) _, tS.stored (by omega) (by omega)⟩

theorem packF_step {f : Int → List T → List T → List T} {acc : List T} {ls : List (List T)} {k : Nat} (hk : k < ls.length) : packF f k acc (ls.drop k) = packF f (k + 1) (f ((2 : Int) ^ k) acc ls[k]) (ls.drop (k + 1)) := by
  rw [List.drop_eq_getElem_cons hk]; rfl

end Go.Proofs.Ytcenijdaacbgpaa.L
