/- The sum of bits in the model, whatever their variables (the text of Pack's l4pack_any). -/
import Derived.Test.YtcenijdaacbgpaaGreatPack
import Derived.Test.YtcenijdaacbgpaaGreatB17
namespace Go.Proofs.YtcenijdaacbgpaaGreat.L
open Go.RowKit Go.Proofs.YtcenijdaacbgpaaGreat.S
set_option linter.unusedVariables false
set_option linter.unusedSimpArgs false

theorem packF_len {k : Nat} : ∀ (ls : List (List T)) (i : Nat) (acc : List T), (∀ b ∈ ls, b.length ≤ 1) → acc.length ≤ k → (packF mrg i acc ls).length ≤ k + ls.length := by
 intro ls
 induction ls generalizing k with
 | nil => intro i acc _ h; simpa [packF] using h
 | cons b r ih =>
  intro i acc hb h
  have h1 := ih (k := k + 1) (i + 1) (mrg ((2 : Int) ^ i) acc b) (fun x hx => hb x (by simp [hx])) (Nat.le_trans (mrg_length _ _ _) (by have := hb b (by simp); omega))
  simp only [packF, List.length_cons]
  omega
theorem packS_len {ls : List (List T)} (h : ∀ b ∈ ls, b.length ≤ 1) : (packS ls).length ≤ ls.length := by have := packF_len (k := 0) ls 0 [] h (Nat.le_refl _); unfold packS; omega
theorem packF_kin : ∀ (ls : List (List T)) (i : Nat) (acc : List T), KIn acc → KIn (packF mrg i acc ls) := by
 intro ls
 induction ls with
 | nil => intro i acc h; exact h
 | cons b r ih => intro i acc h; exact ih (i + 1) _ h.mrg
theorem packS_kin (ls : List (List T)) : KIn (packS ls) := packF_kin ls 0 [] KIn.nil

set_option maxRecDepth 100000 in
set_option maxHeartbeats 3200000 in
theorem l4pack_wide (own : Bool) (lo hi : Nat) (v : Value) (ls : List (List T)) (w : World) (t : LinS own lo hi w v ls) (hw : hi ≤ w.heap.size) (hn : ls.length ≤ 30) (hok : ∀ b ∈ ls, KIn b ∧ b.length ≤ 1) :
  Calls Tryz.prog 61 #[v] w fun e w' => ∃ u, e = .returned (.agg #[u]) ∧ Below w.heap.size w w' ∧ Terms true w.heap.size w'.heap.size w' u (packS ls) := by
 obtain ⟨a, ka, rfl, la, ba⟩ := t.shape
 have OK := Lib.hid hok
 clear hok
 go_enter Tryz.func61, Tryz.ntmps61
 go_wp2_with fail
 go_loopw [4] (fun i wr => ∃ (k : Nat) (acc : List T) (x : Option Addr) (kx : Nat), k ≤ ls.length ∧ i = .int .i64 k ∧ Below w.heap.size w wr ∧ w.heap.size + 2 ≤ wr.heap.size ∧ wr.cell? ⟨w.heap.size, 0, none⟩ = some (.slice none 0 0) ∧ wr.cell? ⟨w.heap.size + 1, 0, none⟩ = some (.slice x acc.length kx) ∧ wr.frozen? ⟨w.heap.size, 0, none⟩ = false ∧ wr.frozen? ⟨w.heap.size + 1, 0, none⟩ = false ∧ Terms true (w.heap.size + 2) wr.heap.size wr (.slice x acc.length kx) acc ∧ (KIn acc ∧ acc.length ≤ k) ∧ packF mrg k acc (ls.drop k) = packS ls) (fun i _ => ls.length - (intOf i).toNat)
 case atStart => exact ⟨0, [], none, 0, Nat.zero_le _, rfl, by (repeat (with_reducible first | exact bR _ _ | assumption | refine bD ?_ | refine bN ?_ _ | refine bA ?_ _ | refine bS ?_ _)), by simp, by simp, by simp, by simp, by simp, Terms.nil _ _ _ _, ⟨KIn.nil, Nat.le_refl _⟩, rfl⟩
 case round =>
  obtain ⟨k, acc, x, kx, hk, rfl, be, zz, cR, cS, fR, fS, tS, ha, hs⟩ := hrel
  have HS := Lib.hid hs
  have HA := Lib.hid ha
  clear hs ha
  obtain ⟨lx, bx⟩ : acc.length ≤ kx ∧ kx ≤ 9223372036854775807 := by obtain ⟨_, _, e, h1, h2⟩ := tS.shape; cases e; exact ⟨h1, h2⟩
  have zb := be.size
  have lw0 : w.heap.size < wr.heap.size := by omega
  have lw1 : w.heap.size + 1 < wr.heap.size := by omega
  by_cases hlt : k < ls.length
  ·obtain ⟨b, off, u, rfl, l1, m1, c1, tu⟩ := (t.keep be hw).at hlt
   obtain ⟨y, ky, rfl, ly, bly⟩ := tu.shape
   have HB := Lib.hid (OK.out _ (List.getElem_mem hlt))
   have bl : b < wr.heap.size := World.block_lt_of_cell? _ _ c1
   obtain ⟨p1, p2⟩ := pow_lt (show k < 30 by omega)
   have hk30 : (k : Int) < 64 := by omega
   have wsh : IntKind.i64.wrap ((2 : Int) ^ k) = (2 : Int) ^ k := IntWalk.i64_in _ (by omega)
   go_wp2_with fail
   have dz : Below wr.heap.size wr wr.drew := (Below.refl _ _).drew
   have zd : wr.heap.size ≤ wr.drew.heap.size := Nat.le_refl _
   have zd' : wr.drew.heap.size ≤ wr.heap.size := Nat.le_refl _
   have e1 := tS.keep dz (Nat.le_refl _)
   have e2 := tu.keep dz (by omega)
   have eS := cell_keep dz cS
   have eC := cell_keep dz c1
   refine wp_region_tailL (S := fun w' => w'.cell? ⟨w.heap.size + 1, 0, none⟩ = some (.slice x acc.length kx) ∧ w'.cell? ⟨b, off + k, none⟩ = some (.slice y ls[k].length ky)) (by kernel_rfl) (by simp) (by kernel_rfl) ⟨eS, eC⟩ (fun hHeld => ?_)
   simp only [List.dropLast_cons_cons, List.dropLast_singleton, List.getLast_cons_cons, List.getLast_singleton]
   refine wpAnyH_take (i := 0) rfl (by kernel_rfl) (by kernel_rfl) (by kernel_rfl) (fun _ _ _ h => h) (v := ?_) (Or.inl ⟨by rfl, ?_⟩) (by assumption) ?_
   case refine_2 => (intro w hSw; (try dsimp only at hSw); go_simp; (try with_reducible rfl))
   try simp only [Act.put, List.setIfInBounds_toArray, List.set_cons_zero, List.set_cons_succ, List.getElem_toArray, List.getElem_cons_succ, List.getElem_cons_zero]
   refine wpAnyH_take (i := 1) rfl (by kernel_rfl) (by kernel_rfl) (by kernel_rfl) (fun _ _ _ h => h) (v := ?_) (Or.inl ⟨by rfl, ?_⟩) (by assumption) ?_
   case refine_2 => (intro w hSw; (try dsimp only at hSw); go_simp; (try with_reducible rfl))
   try simp only [Act.put, List.setIfInBounds_toArray, List.set_cons_zero, List.set_cons_succ, List.getElem_toArray, List.getElem_cons_succ, List.getElem_cons_zero]
   refine wpAnyH_take (i := 2) rfl (by kernel_rfl) (by kernel_rfl) (by kernel_rfl) (fun _ _ _ h => h) (v := ?_) (Or.inl ⟨by rfl, ?_⟩) (by assumption) ?_
   case refine_2 => (intro w hSw; (try dsimp only at hSw); go_simp; (try with_reducible rfl))
   try simp only [Act.put, List.setIfInBounds_toArray, List.set_cons_zero, List.set_cons_succ, List.getElem_toArray, List.getElem_cons_succ, List.getElem_cons_zero]
   refine wpAnyH_take (i := 3) rfl (by kernel_rfl) (by kernel_rfl) (by kernel_rfl) (fun _ _ _ h => h) (v := ?_) (Or.inl ⟨by rfl, ?_⟩) (by assumption) ?_
   case refine_2 => (intro w hSw; (try dsimp only at hSw); go_simp; (try with_reducible rfl))
   try simp only [Act.put, List.setIfInBounds_toArray, List.set_cons_zero, List.set_cons_succ, List.getElem_toArray, List.getElem_cons_succ, List.getElem_cons_zero]
   refine wpAnyH_take (i := 4) rfl (by kernel_rfl) (by kernel_rfl) (by kernel_rfl) (fun _ _ _ h => h) (v := ?_) (Or.inl ⟨by rfl, ?_⟩) (by assumption) ?_
   case refine_2 => (intro w hSw; (try dsimp only at hSw); go_simp; (try with_reducible rfl))
   try simp only [Act.put, List.setIfInBounds_toArray, List.set_cons_zero, List.set_cons_succ, List.getElem_toArray, List.getElem_cons_succ, List.getElem_cons_zero]
   refine wpAnyH_take (i := 5) rfl (by kernel_rfl) (by kernel_rfl) (by kernel_rfl) (fun _ _ _ h => h) (v := ?_) (Or.inl ⟨by rfl, ?_⟩) (by assumption) ?_
   case refine_2 => (intro w hSw; (try dsimp only at hSw); go_simp; (try with_reducible rfl))
   try simp only [Act.put, List.setIfInBounds_toArray, List.set_cons_zero, List.set_cons_succ, List.getElem_toArray, List.getElem_cons_succ, List.getElem_cons_zero]
   refine wpAnyH_take (i := 6) rfl (by kernel_rfl) (by kernel_rfl) (by kernel_rfl) (fun _ _ _ h => h) (v := ?_) (Or.inl ⟨by rfl, ?_⟩) (by assumption) ?_
   case refine_2 => (intro w hSw; (try dsimp only at hSw); go_simp; (try with_reducible rfl))
   try simp only [Act.put, List.setIfInBounds_toArray, List.set_cons_zero, List.set_cons_succ, List.getElem_toArray, List.getElem_cons_succ, List.getElem_cons_zero]
   refine wpAnyH_ready (rs := [7]) (by kernel_rfl) (by simp) ?_
   refine AllReadyH.cons rfl (fun K hK => ?_) AllReadyH.nil
   go_simp
   go_at_call 76
   refine (l2add_wide _ _ _ _ acc _ _ _ _ ls[k] ((2 : Int) ^ k) wr.drew e1 zd e2 (by omega) (by omega) (by omega) HA.out.1 HB.out.1 (by have := HA.out.2; omega) (by have := HB.out.2; omega)).mono ?_
   rintro e v2 ⟨u2, rfl, f2, t2⟩
   obtain ⟨z, kz, rfl, lz, bz⟩ := t2.shape
   refine hK.out _ _ ⟨cell_keep f2 eS, cell_keep f2 eC⟩ (fun hHeld => ?_)
   clear hK K
   try simp only [Act.put, List.setIfInBounds_toArray, List.set_cons_zero, List.set_cons_succ, List.getElem_toArray, List.getElem_cons_succ, List.getElem_cons_zero]
   refine wpAnyH_done (by kernel_rfl) ?_ _
   show Oper.wp _ _ _ _ _ _
   have z2 := f2.size
   have cS2 := cell_keep f2 eS
   have cR2 := cell_keep f2 (cell_keep dz cR)
   have fR2 : v2.frozen? ⟨w.heap.size, 0, none⟩ = false := (f2.frozen (p := ⟨w.heap.size, 0, none⟩) (show w.heap.size < wr.drew.heap.size by omega)).trans ((dz.frozen (p := ⟨w.heap.size, 0, none⟩) lw0).trans fR)
   have fS2 : v2.frozen? ⟨w.heap.size + 1, 0, none⟩ = false := (f2.frozen (p := ⟨w.heap.size + 1, 0, none⟩) (show w.heap.size + 1 < wr.drew.heap.size by omega)).trans ((dz.frozen (p := ⟨w.heap.size + 1, 0, none⟩) lw1).trans fS)
   have be2 : Below w.heap.size w v2 := (be.trans (dz.mono zb)).trans (f2.mono (by omega))
   have HA2 : Hid (KIn (mrg ((2 : Int) ^ k) acc ls[k]) ∧ (mrg ((2 : Int) ^ k) acc ls[k]).length ≤ k + 1) := Lib.hid ⟨HA.out.1.mrg, Nat.le_trans (mrg_length _ _ _) (by have h1 := HA.out.2; have h2 := HB.out.2; omega)⟩
   have E : Hid (packF mrg (k + 1) (mrg ((2 : Int) ^ k) acc ls[k]) (ls.drop (k + 1)) = packS ls) := Lib.hid (by rw [← HS.out]; exact (packF_step hlt).symm)
   clear wsh eS eC cR cS fR fS c1 dz f2 hHeld
   go_simp
   go_wp2_with fail
   exact ⟨⟨k + 1, mrg ((2 : Int) ^ k) acc ls[k], z, kz, by omega, by go_num, Below.setCell be2 (Nat.le_succ _) _, by simp; omega, cell_set1 cR2 (by omega), World.cell?_setCell_same' _ _ _ (by rw [cS2]; rfl), by simp [fR2], by simp [fS2], t2.stored (by omega) (by omega), HA2.out, E.out⟩, by simp [intOf]; omega⟩
  ·have E : Hid (packS ls = acc) := Lib.hid (by rw [← HS.out, show k = ls.length from by omega]; simp [packF])
   go_wp2_with fail
   have cz := World.cell?_setCell_same' wr ⟨w.heap.size, 0, none⟩ (.slice x acc.length kx) (by rw [cR]; rfl)
   rw [E.out]
   exact bodyPost_ret (v := .agg #[.slice x acc.length kx]) (by simp [results, Tryz.results61, go_sem, cz]) rfl ⟨_, rfl, Below.setCell be (Nat.le_refl _) _, tS.stored (by omega) (by omega)⟩

end Go.Proofs.YtcenijdaacbgpaaGreat.L
