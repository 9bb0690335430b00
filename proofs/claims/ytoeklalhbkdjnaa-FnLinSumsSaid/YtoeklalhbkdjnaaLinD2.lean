/- The draws of layer 2: the bent ones. -/
import Derived.Test.YtoeklalhbkdjnaaLinD
import Derived.Deep.AppendLies
namespace Go.Proofs.Ytoeklalhbkdjnaa.L
open Go.RowKit Go.Shelf Go.Proofs.Ytoeklalhbkdjnaa.S
set_option linter.unusedVariables false
set_option linter.unusedSimpArgs false

/-- A drawn combination, valid or not. -/
def DrawnL (B c : Nat) (a : Option Addr) (len cap : Nat) (w : World) (e : Ending) (w' : World) : Prop :=
  ∃ u ts, e = .returned (.agg #[u]) ∧ Terms true w.heap.size w'.heap.size w' u ts ∧ ts.length ≤ 4 ∧ Cur B w' c a len cap ∧ w.grownBy w' (some c)
/-- The same, and that the factors are nearly in the field. -/
def DrawnW (B c : Nat) (a : Option Addr) (len cap : Nat) (w : World) (e : Ending) (w' : World) : Prop :=
  ∃ u ts, e = .returned (.agg #[u]) ∧ Terms true w.heap.size w'.heap.size w' u ts ∧ ts.length ≤ 4 ∧ Cur B w' c a len cap ∧ w.grownBy w' (some c) ∧ ∀ t ∈ ts, -1 ≤ t.2 ∧ t.2 ≤ 2147483647
theorem linOk_bd {ts : List T} (h : linOk ts = true) : ∀ t ∈ ts, -1 ≤ t.2 ∧ t.2 ≤ 2147483647 := fun t ht => by have := linOk_mem h t ht; omega
theorem cur_own {B : Nat} {w w' : World} {c base : Nat} {a : Option Addr} {len cap : Nat} {e : TypeId} {size : Nat} {v : Value} {n : Nat} {xs : List Value} (h : Cur B w c a len cap) (hB : B ≤ base) (hc : c < base) (hs : base ≤ w.heap.size) (ho : w.ownsRow base e size v n xs) (hg : w.grownBy w' v.ownBlock) : Cur B w' c a len cap := Cur.own h hB hc hs ho hg
theorem cells_snoc (ts : List T) (x y : Int) : cells (ts ++ [(x, y)]) = cells ts ++ [.int .i64 x, .int .i64 y] := by simp [cells]
theorem bent_end {B c : Nat} {a : Option Addr} {len cap : Nat} {w V : World} {g cp b3 : Nat} {ts : List T} {x y : Int} 
    (own : V.ownsRow (w.heap.size + 1) 48 2 (.slice (some ⟨g, 0, none⟩) (ts.length + 1) cp) (ts.length + 1) (cells ts ++ [.int .i64 x, .int .i64 y])) (hf : ∀ t ∈ ts, Fits t.1 ∧ Fits t.2)
    (hx : -1 ≤ x ∧ x ≤ 2147483647) (hy : -1 ≤ y ∧ y ≤ 2147483647) (h1 : w.heap.size + 1 ≤ g) (h2 : g ≠ b3) (cu : Cur B V c a len cap) (G : w.grownBy V (some c)) (hl : ts.length ≤ 3) (hB : B ≤ w.heap.size) (hb : w.heap.size < b3) (hc : c < w.heap.size) (hbd : ∀ t ∈ ts, -1 ≤ t.2 ∧ t.2 ≤ 2147483647) :
    DrawnW B c a len cap w (.returned (.agg #[.slice (some ⟨g, 0, none⟩) (ts.length + 1) cp])) ((V.setCell ⟨b3, 0, none⟩ (.slice (some ⟨g, 0, none⟩) (ts.length + 1) cp)).setCell ⟨w.heap.size, 0, none⟩ (.slice (some ⟨g, 0, none⟩) (ts.length + 1) cp)) := by
  have o1 : OwnT V (w.heap.size + 1) (.slice (some ⟨g, 0, none⟩) (ts.length + 1) cp) (ts ++ [(x, y)]) := by
    unfold OwnT; rw [cells_snoc, List.length_append]; exact own
  have o2 : OwnT (V.setCell ⟨b3, 0, none⟩ (.slice (some ⟨g, 0, none⟩) (ts.length + 1) cp)) (w.heap.size + 1) (.slice (some ⟨g, 0, none⟩) (ts.length + 1) cp) (ts ++ [(x, y)]) :=
    World.ownsRow.kept o1 (grownBy_setCell' V b3 _) (.inr (fun q => h2 (by simpa [Value.ownBlock] using q)))
  have ng : Value.ownBlock (.slice (some ⟨g, 0, none⟩) (ts.length + 1) cp) ≠ some w.heap.size := by
    intro q
    have e : g = w.heap.size := by simpa [Value.ownBlock] using q
    omega
  have o3 := World.ownsRow.kept o2 (grownBy_setCell' (V.setCell ⟨b3, 0, none⟩ (.slice (some ⟨g, 0, none⟩) (ts.length + 1) cp)) w.heap.size (.slice (some ⟨g, 0, none⟩) (ts.length + 1) cp)) (.inr ng)
  refine ⟨_, ts ++ [(x, y)], rfl, (OwnT.terms (OwnT.mono o3 (Nat.le_succ _)) ?_), by simp; omega, cur_set (cur_set cu (by omega) (by omega)) (by omega) (by omega), grown_set (grown_set G (by omega) _) (Nat.le_refl _) _, ?_⟩
  rotate_left
  · intro t ht
    rcases List.mem_append.1 ht with h | h
    · exact hbd t h
    · simp at h; subst h; exact hy
  intro t ht
  rcases List.mem_append.1 ht with h | h
  · exact hf t h
  · simp at h; subst h
    unfold Fits; simp only; omega

set_option maxRecDepth 100000 in
set_option maxHeartbeats 3200000 in
theorem l2bent_wide (B c : Nat) (a : Option Addr) (len cap : Nat) (w : World) (hB : B ≤ w.heap.size) (hcur : Cur B w c a len cap) :
    Calls Try.prog 27 #[.pointer (some ⟨c, 0, none⟩)] w (DrawnW B c a len cap w) := by
  have hcw : c < w.heap.size := World.block_lt_of_cell? w ⟨c, 0, none⟩ hcur.c0
  obtain ⟨i0, hi0, hz0, hz1, hz2⟩ := info_parts termInfo
  go_enter Try.func27, Try.ntmps27
  go_wp2_with fail
  refine name_call fun w1 hw1 => ?_
  have f1 : Below w.heap.size w w1 := by rw [hw1]; (repeat (with_reducible first | exact bR _ _ | assumption | refine bD ?_ | refine bN ?_ _ | refine bA ?_ _ | refine bS ?_ _))
  have z1 : w.heap.size + 1 ≤ w1.heap.size := by rw [hw1]; simp
  have c2 : w1.cell? ⟨w.heap.size, 0, none⟩ = some (.slice none 0 0) := by rw [hw1]; first | (simp; done) | go_simp
  have q2 : w1.frozen? ⟨w.heap.size, 0, none⟩ = false := by rw [hw1]; first | (simp; done) | go_simp
  clear hw1
  have cu1 := cur_below hcur hB f1
  refine (l2draw_any B c a len cap 6 w1 (by omega) (by omega) (by omega) cu1).mono ?_
  rintro e v1 ⟨u, ts, rfl, own1, hok, hl, cu2, gr2⟩
  have d2 := gck gr2 c2 (by omega)
  have r2 := gfk gr2 q2 (by omega) (by omega)
  have z2 := gr2.size
  have G2 : w.grownBy v1 (some c) := grownBy.trans (grown_below f1) gr2
  have own2 : OwnT v1 (w.heap.size + 1) u ts := OwnT.mono own1 z1
  obtain ⟨au, ku, rfl⟩ := own_slice own2
  have hown : ∀ b, Value.ownBlock (.slice au ts.length ku) = some b → b ≠ v1.heap.size := fun b e q => by have := (World.ownsRow.lt own2 b e).2; omega
  have HF := Lib.hid (linOk_fits hok)
  have HBD := Lib.hid (linOk_bd hok)
  clear own1 c2 q2 cu1 gr2 f1 hok
  go_wp2_with fail
  refine name_call fun w2 hw2 => ?_
  have f2 : Below v1.heap.size v1 w2 := by rw [hw2]; (repeat (with_reducible first | exact bR _ _ | assumption | refine bD ?_ | refine bN ?_ _ | refine bA ?_ _ | refine bS ?_ _))
  have z3 : v1.heap.size + 1 ≤ w2.heap.size := by rw [hw2]; simp
  have S1 : w2.cell? ⟨v1.heap.size, 0, none⟩ = some (.slice au ts.length ku) := by rw [hw2]; first | (simp; done) | go_simp
  have fr1 : w2.frozen? ⟨v1.heap.size, 0, none⟩ = false := by rw [hw2]; first | (simp; done) | go_simp
  clear hw2
  have cu3 := cur_below cu2 (by omega) f2
  have G3 := grownBy.trans G2 (grown_below (r := some c) f2)
  have own3 := own2.kept (grown_below (r := some c) f2) (by omega)
  have ca1 := ck f2 d2
  have fa1 := bfk f2 r2 (by omega)
  clear own2 d2 r2 cu2 G2 f2
  refine (l1Once_any B c a len cap 6 w2 (by omega) (by omega) cu3).mono ?_
  rintro e w3 ⟨bo, rfl, cu4, gr4⟩
  have z4 := gr4.size
  have G4 := grownBy.trans G3 gr4
  have own4 := own3.kept gr4 (by omega)
  have S2 := gck gr4 S1 (by omega)
  have fr2 := gfk gr4 fr1 (by omega) (by omega)
  have ca2 := gck gr4 ca1 (by omega)
  have fa2 := gfk gr4 fa1 (by omega) (by omega)
  clear cu3 G3 own3 S1 fr1 ca1 fa1 gr4
  cases bo
  · have O4 := Lib.hid own4
    have hsz : w.heap.size < w3.heap.size := by omega
    clear own4
    go_wp2_with fail
    exact bodyPost_ret (v := .agg #[.slice au ts.length ku]) (by simp [results, Try.results27, go_sem, World.cell?_setCell_same' w3 ⟨w.heap.size, 0, none⟩ (.slice au ts.length ku) (by rw [ca2]; rfl)]) rfl ⟨_, ts, rfl, OwnT.terms (OwnT.mono (World.ownsRow.kept O4.out (grownBy_setCell' w3 w.heap.size _) (.inr (fun q => by have := (World.ownsRow.lt O4.out _ q).1; omega))) (Nat.le_succ _)) HF.out, by omega, cur_set cu4 hB (by omega), grown_set G4 (Nat.le_refl _) _, HBD.out⟩
  · have S0 : w3.drew.cell? ⟨v1.heap.size, 0, none⟩ = some (.slice au ts.length ku) := S2
    have fr0 : w3.drew.frozen? ⟨v1.heap.size, 0, none⟩ = false := fr2
    have ca0 : w3.drew.cell? ⟨w.heap.size, 0, none⟩ = some (.slice none 0 0) := ca2
    have fa0 : w3.drew.frozen? ⟨w.heap.size, 0, none⟩ = false := fa2
    have gd : w3.grownBy w3.drew (some c) := grownBy.drew (grownBy.refl _ _)
    have own0 := own4.kept gd (by omega)
    have G0 := grownBy.trans G4 gd
    have CU0 : Cur B w3.drew c a len cap := cu4.keep ((Below.refl _ _).drew) rfl
    have zd := gd.size
    obtain ⟨X, hX⟩ : ∃ X, X = w3.drew := ⟨_, rfl⟩
    rw [← hX] at S0 fr0 ca0 fa0 own0 G0 CU0 zd
    clear S2 fr2 ca2 fa2 own4 G4 cu4 gd
    go_wp2_with fail
    refine wp_region_tailL (S := (fun w' => w'.cell? ⟨v1.heap.size, 0, none⟩ = some (.slice au ts.length ku))) (by kernel_rfl) (by simp) (by kernel_rfl) (by rw [← hX]; exact S0) (fun hHeld => ?_)
    simp only [List.dropLast_cons_cons, List.dropLast_singleton, List.getLast_cons_cons, List.getLast_singleton]
    rw [← hX] at hHeld ⊢
    clear hX
    refine wpAnyH_take (i := 0) rfl (by kernel_rfl) (by kernel_rfl) (by kernel_rfl) (fun _ _ _ h => h) (v := ?_) (Or.inl ⟨by rfl, ?_⟩) (by assumption) ?_
    case refine_2 => (intro w hSw; (try dsimp only at hSw); go_simp; (try with_reducible rfl))
    try simp only [Act.put, List.setIfInBounds_toArray, List.set_cons_zero, List.set_cons_succ, List.getElem_toArray, List.getElem_cons_succ, List.getElem_cons_zero]
    refine wpAnyH_take (i := 1) rfl (by kernel_rfl) (by kernel_rfl) (by kernel_rfl) (fun _ _ _ h => h) (v := ?_) (Or.inl ⟨by rfl, ?_⟩) (by assumption) ?_
    case refine_2 => (intro w hSw; (try dsimp only at hSw); go_simp; (try with_reducible rfl))
    try simp only [Act.put, List.setIfInBounds_toArray, List.set_cons_zero, List.set_cons_succ, List.getElem_toArray, List.getElem_cons_succ, List.getElem_cons_zero]
    refine wpAnyH_take (i := 2) rfl (by kernel_rfl) (by kernel_rfl) (by kernel_rfl) (fun _ _ _ h => h) (v := ?_) (Or.inl ⟨by rfl, ?_⟩) (by assumption) ?_
    case refine_2 => (intro w hSw; (try dsimp only at hSw); go_simp; (try with_reducible rfl))
    try simp only [Act.put, List.setIfInBounds_toArray, List.set_cons_zero, List.set_cons_succ, List.getElem_toArray, List.getElem_cons_succ, List.getElem_cons_zero]
    refine wpAnyH_take (i := 5) rfl (by kernel_rfl) (by kernel_rfl) (by kernel_rfl) (fun _ _ _ h => h) (v := ?_) (Or.inl ⟨by rfl, ?_⟩) (by assumption) ?_
    case refine_2 => (intro w hSw; (try dsimp only at hSw); go_simp; (try with_reducible rfl))
    try simp only [Act.put, List.setIfInBounds_toArray, List.set_cons_zero, List.set_cons_succ, List.getElem_toArray, List.getElem_cons_succ, List.getElem_cons_zero]
    refine wpAnyH_ready (rs := [3, 6]) (by kernel_rfl) (by simp) ?_
    refine AllReadyH.cons rfl (fun K hK => ?_) (AllReadyH.cons rfl (fun K hK => ?_) AllReadyH.nil)
    · go_simp
      obtain ⟨W1, hW1⟩ : ∃ W, W = (X).alloc (.cells #[.int .i64 (-1), .int .i64 0, .int .i64 5, .int .i64 7, .int .i64 2999, .int .i64 3000] 3) := ⟨_, rfl⟩
      rw [← hW1]
      have g1 : (X).grownBy W1 (some c) := by rw [hW1]; exact grownBy.alloc (grownBy.refl _ _) _
      have zz1 : (X).heap.size + 1 ≤ W1.heap.size := by rw [hW1]; simp
      have cu1 : Cur B W1 c a len cap := by rw [hW1]; exact cur_below CU0 (by omega) ((Below.refl _ _).alloc (Nat.le_refl _) _)
      have ea1 : Elems W1 (X).heap.size 0 6 (fun x => -1 ≤ x ∧ x ≤ 2147483647) := by rw [hW1]; exact Elems.new (l := [-1, 0, 5, 7, 2999, 3000]) _ rfl (by intro v hv; simp only [List.mem_cons, List.not_mem_nil, or_false] at hv; rcases hv with rfl | rfl | rfl | rfl | rfl | rfl <;> omega)
      clear hW1
      have z1' := g1.size
      try simp at z1'
      have S1 := gck g1 S0 (by omega)
      have own1 := OwnT.kept own0 g1 (by omega)
      have G1 := grownBy.trans G0 g1
      have fr1 := gfk g1 fr0 (by omega) (by omega)
      have ca1 := gck g1 ca0 (by omega)
      have fa1 := gfk g1 fa0 (by omega) (by omega)
      refine hK.out _ _ S1 (fun hHeld => ?_)
      clear hK K
      try simp only [Act.put, List.setIfInBounds_toArray, List.set_cons_zero, List.set_cons_succ, List.getElem_toArray, List.getElem_cons_succ, List.getElem_cons_zero]
      refine wpAnyH_ready (rs := [4, 6]) (by kernel_rfl) (by simp) ?_
      refine AllReadyH.cons rfl (fun K hK => ?_) (AllReadyH.cons rfl (fun K hK => ?_) AllReadyH.nil)
      · go_simp
        go_at_call 31
        refine (l1PickInt_any B c a len cap (X).heap.size 0 6 6 (fun x => -1 ≤ x ∧ x ≤ 2147483647) (W1) (by omega) (by omega) (by omega) (by omega) (by omega) cu1 ea1).mono ?_
        rintro e Y2 ⟨xa, rfl, ⟨xa0, xa1⟩, cu2, g2⟩
        have z2' := g2.size
        try simp at z2'
        have S2 := gck g2 S1 (by omega)
        have own2 := OwnT.kept own1 g2 (by omega)
        have G2 := grownBy.trans G1 g2
        have fr2 := gfk g2 fr1 (by omega) (by omega)
        have ca2 := gck g2 ca1 (by omega)
        have fa2 := gfk g2 fa1 (by omega) (by omega)
        have ea2 := Elems.keep ea1 (g2.block _ (by omega) (by simp; omega))
        refine hK.out _ _ S2 (fun hHeld => ?_)
        clear hK K
        try simp only [Act.put, List.setIfInBounds_toArray, List.set_cons_zero, List.set_cons_succ, List.getElem_toArray, List.getElem_cons_succ, List.getElem_cons_zero]
        refine wpAnyH_ready (rs := [6]) (by kernel_rfl) (by simp) ?_
        refine AllReadyH.cons rfl (fun K hK => ?_) AllReadyH.nil
        go_simp
        obtain ⟨W3, hW3⟩ : ∃ W, W = (Y2).alloc (.cells #[.int .i64 0, .int .i64 1, .int .i64 2147483646, .int .i64 2147483647, .int .i64 (-1)] 3) := ⟨_, rfl⟩
        rw [← hW3]
        have g3 : (Y2).grownBy W3 (some c) := by rw [hW3]; exact grownBy.alloc (grownBy.refl _ _) _
        have zz3 : (Y2).heap.size + 1 ≤ W3.heap.size := by rw [hW3]; simp
        have cu3 : Cur B W3 c a len cap := by rw [hW3]; exact cur_below cu2 (by omega) ((Below.refl _ _).alloc (Nat.le_refl _) _)
        have eb3 : Elems W3 (Y2).heap.size 0 5 (fun x => -1 ≤ x ∧ x ≤ 2147483647) := by rw [hW3]; exact Elems.new (l := [0, 1, 2147483646, 2147483647, -1]) _ rfl (by intro v hv; simp only [List.mem_cons, List.not_mem_nil, or_false] at hv; rcases hv with rfl | rfl | rfl | rfl | rfl <;> omega)
        clear hW3
        have z3' := g3.size
        try simp at z3'
        have S3 := gck g3 S2 (by omega)
        have own3 := OwnT.kept own2 g3 (by omega)
        have G3 := grownBy.trans G2 g3
        have fr3 := gfk g3 fr2 (by omega) (by omega)
        have ca3 := gck g3 ca2 (by omega)
        have fa3 := gfk g3 fa2 (by omega) (by omega)
        have ea3 := Elems.keep ea2 (g3.block _ (by omega) (by simp; omega))
        refine hK.out _ _ S3 (fun hHeld => ?_)
        clear hK K
        try simp only [Act.put, List.setIfInBounds_toArray, List.set_cons_zero, List.set_cons_succ, List.getElem_toArray, List.getElem_cons_succ, List.getElem_cons_zero]
        refine wpAnyH_ready (rs := [7]) (by kernel_rfl) (by simp) ?_
        refine AllReadyH.cons rfl (fun K hK => ?_) AllReadyH.nil
        go_simp
        go_at_call 31
        refine (l1PickInt_any B c a len cap (Y2).heap.size 0 5 5 (fun x => -1 ≤ x ∧ x ≤ 2147483647) (W3) (by omega) (by omega) (by omega) (by omega) (by omega) cu3 eb3).mono ?_
        rintro e Y4 ⟨xb, rfl, ⟨xb0, xb1⟩, cu4, g4⟩
        have z4' := g4.size
        try simp at z4'
        have S4 := gck g4 S3 (by omega)
        have own4 := OwnT.kept own3 g4 (by omega)
        have G4 := grownBy.trans G3 g4
        have fr4 := gfk g4 fr3 (by omega) (by omega)
        have ca4 := gck g4 ca3 (by omega)
        have fa4 := gfk g4 fa3 (by omega) (by omega)
        have ea4 := Elems.keep ea3 (g4.block _ (by omega) (by simp; omega))
        have eb4 := Elems.keep eb3 (g4.block _ (by omega) (by simp; omega))
        refine hK.out _ _ S4 (fun hHeld => ?_)
        clear hK K
        try simp only [Act.put, List.setIfInBounds_toArray, List.set_cons_zero, List.set_cons_succ, List.getElem_toArray, List.getElem_cons_succ, List.getElem_cons_zero]
        refine wpAnyH_take (i := 8) rfl (by kernel_rfl) (by kernel_rfl) (by kernel_rfl) (fun _ _ _ h => h) (v := ?_) (Or.inl ⟨by rfl, ?_⟩) (by assumption) ?_
        case refine_2 => (intro w hSw; (try dsimp only at hSw); go_simp; (try with_reducible rfl))
        try simp only [Act.put, List.setIfInBounds_toArray, List.set_cons_zero, List.set_cons_succ, List.getElem_toArray, List.getElem_cons_succ, List.getElem_cons_zero]
        refine wpAnyH_ready (rs := [9]) (by kernel_rfl) (by simp) ?_
        refine AllReadyH.cons rfl (fun K hK => ?_) AllReadyH.nil
        go_simp
        obtain ⟨W5, hW5⟩ : ∃ W, W = (Y4).alloc (.cells #[.int .i64 xa, .int .i64 xb] 48) := ⟨_, rfl⟩
        rw [← hW5]
        have g5 : (Y4).grownBy W5 (some c) := by rw [hW5]; exact grownBy.alloc (grownBy.refl _ _) _
        have zz5 : (Y4).heap.size + 1 ≤ W5.heap.size := by rw [hW5]; simp
        have cu5 : Cur B W5 c a len cap := by rw [hW5]; exact cur_below cu4 (by omega) ((Below.refl _ _).alloc (Nat.le_refl _) _)
        have ct5 : ∀ j u, [Value.int .i64 xa, Value.int .i64 xb][j]? = some u → W5.cell? ((⟨(Y4).heap.size, 0, none⟩ : Addr).add j) = some u := by rw [hW5]; exact cells_two_new _ _ _ _
        clear hW5
        have z5' := g5.size
        try simp at z5'
        have S5 := gck g5 S4 (by omega)
        have own5 := OwnT.kept own4 g5 (by omega)
        have G5 := grownBy.trans G4 g5
        have fr5 := gfk g5 fr4 (by omega) (by omega)
        have ca5 := gck g5 ca4 (by omega)
        have fa5 := gfk g5 fa4 (by omega) (by omega)
        have ea5 := Elems.keep ea4 (g5.block _ (by omega) (by simp; omega))
        have eb5 := Elems.keep eb4 (g5.block _ (by omega) (by simp; omega))
        refine hK.out _ _ S5 (fun hHeld => ?_)
        clear hK K
        try simp only [Act.put, List.setIfInBounds_toArray, List.set_cons_zero, List.set_cons_succ, List.getElem_toArray, List.getElem_cons_succ, List.getElem_cons_zero]
        refine wpAnyH_ready (rs := [10]) (by kernel_rfl) (by simp) ?_
        refine AllReadyH.cons rfl (fun K hK => ?_) AllReadyH.nil
        refine step_append_lies W5 rfl _ _ 23 rfl (w.heap.size + 1) 48 i0 (.agg #[.int .i64 0, .int .i64 0]) 2 16 Try.underlying23 hi0 hz0 hz1 hz2 rfl (by decide) (.slice au ts.length ku) ts.length (cells ts) rfl own5 ⟨(Y4).heap.size, 0, none⟩ 1 1 [.int .i64 xa, .int .i64 xb] rfl rfl ct5 (by intro u hu; simp only [List.mem_cons, List.not_mem_nil, or_false] at hu; rcases hu with rfl | rfl <;> rfl) (by omega) (by unfold maxLen; omega) (by omega) (by omega) _ rfl ?_
        intro g cp V own9 grow9 at9 lt9
        have rl := fun b e => (World.ownsRow.lt own5 b e).1
        have nb : Value.ownBlock (.slice au ts.length ku) ≠ some v1.heap.size := fun e => hown _ e rfl
        have S9 := (grow9.cell_far ⟨v1.heap.size, 0, none⟩ (by show v1.heap.size < _; omega) (fun e => nb e.symm)).trans S5
        have R9 := (grow9.frozen_far ⟨v1.heap.size, 0, none⟩ (by show v1.heap.size < _; omega) (fun e => nb e.symm)).trans fr5
        have A9 := (grow9.cell_far ⟨w.heap.size, 0, none⟩ (by show w.heap.size < _; omega) (fun e => absurd (show w.heap.size + 1 ≤ w.heap.size from rl _ e.symm) (by omega))).trans ca5
        have F9 := (grow9.frozen_far ⟨w.heap.size, 0, none⟩ (by show w.heap.size < _; omega) (fun e => absurd (show w.heap.size + 1 ≤ w.heap.size from rl _ e.symm) (by omega))).trans fa5
        have cu9 := cur_own cu5 (base := w.heap.size + 1) (by omega) (by omega) (by omega) own5 grow9
        have G9 := grown_own G5 (by omega) own5 grow9
        have z9 := grow9.size
        have hg9 : w.heap.size + 1 ≤ g ∧ g ≠ v1.heap.size := by
          refine ⟨(own9.lt g rfl).1, ?_⟩
          rcases at9 with e | e
          · intro q; exact hown g e q
          · omega
        refine hK.out _ _ S9 (fun hHeld => ?_)
        clear hK K
        try simp only [Act.put, List.setIfInBounds_toArray, List.set_cons_zero, List.set_cons_succ, List.getElem_toArray, List.getElem_cons_succ, List.getElem_cons_zero]
        refine wpAnyH_take (i := 11) rfl (by kernel_rfl) (by kernel_rfl) (by kernel_rfl) (fun _ _ _ h => h) (v := ?_) (Or.inl ⟨by rfl, ?_⟩) (by assumption) ?_
        case refine_2 => (intro w hSw; (try dsimp only at hSw); go_simp; (try with_reducible rfl))
        try simp only [Act.put, List.setIfInBounds_toArray, List.set_cons_zero, List.set_cons_succ, List.getElem_toArray, List.getElem_cons_succ, List.getElem_cons_zero]
        refine wpAnyH_done (by kernel_rfl) ?_ _
        show Oper.wp _ _ _ _ _ _
        have O9 := Lib.hid own9
        have HS := Lib.hid (And.intro S9 R9)
        have zV : w.heap.size < V.heap.size := by omega
        clear S9 own9 grow9 at9 rl nb own5 ea5 eb5 ca5 fa5 fr5 G5 cu5 hHeld
        have S9 := HS.out.1
        have R9 := HS.out.2
        go_simp
        go_wp2_with fail
        have e9 : ts ++ [(xa, xb)] = ts ++ [(xa, xb)] := rfl
        exact bodyPost_ret (v := .agg #[.slice (some ⟨g, 0, none⟩) (ts.length + 1) cp]) (by simp [results, Try.results27, go_sem, World.cell?_setCell_same' (V.setCell ⟨v1.heap.size, 0, none⟩ (.slice (some ⟨g, 0, none⟩) (ts.length + 1) cp)) ⟨w.heap.size, 0, none⟩ (.slice (some ⟨g, 0, none⟩) (ts.length + 1) cp) (by rw [World.cell?_setCell_other _ _ _ _ (by first | (simp; done) | (simp; omega)), A9]; rfl)]) rfl (bent_end O9.out HF.out ⟨xa0, xa1⟩ ⟨xb0, xb1⟩ hg9.1 hg9.2 cu9 G9 (by omega) (by omega) (by omega) (by omega) HBD.out)
      · go_simp
        obtain ⟨W2, hW2⟩ : ∃ W, W = (W1).alloc (.cells #[.int .i64 0, .int .i64 1, .int .i64 2147483646, .int .i64 2147483647, .int .i64 (-1)] 3) := ⟨_, rfl⟩
        rw [← hW2]
        have g2 : (W1).grownBy W2 (some c) := by rw [hW2]; exact grownBy.alloc (grownBy.refl _ _) _
        have zz2 : (W1).heap.size + 1 ≤ W2.heap.size := by rw [hW2]; simp
        have cu2 : Cur B W2 c a len cap := by rw [hW2]; exact cur_below cu1 (by omega) ((Below.refl _ _).alloc (Nat.le_refl _) _)
        have eb2 : Elems W2 (W1).heap.size 0 5 (fun x => -1 ≤ x ∧ x ≤ 2147483647) := by rw [hW2]; exact Elems.new (l := [0, 1, 2147483646, 2147483647, -1]) _ rfl (by intro v hv; simp only [List.mem_cons, List.not_mem_nil, or_false] at hv; rcases hv with rfl | rfl | rfl | rfl | rfl <;> omega)
        clear hW2
        have z2' := g2.size
        try simp at z2'
        have S2 := gck g2 S1 (by omega)
        have own2 := OwnT.kept own1 g2 (by omega)
        have G2 := grownBy.trans G1 g2
        have fr2 := gfk g2 fr1 (by omega) (by omega)
        have ca2 := gck g2 ca1 (by omega)
        have fa2 := gfk g2 fa1 (by omega) (by omega)
        have ea2 := Elems.keep ea1 (g2.block _ (by omega) (by simp; omega))
        refine hK.out _ _ S2 (fun hHeld => ?_)
        clear hK K
        try simp only [Act.put, List.setIfInBounds_toArray, List.set_cons_zero, List.set_cons_succ, List.getElem_toArray, List.getElem_cons_succ, List.getElem_cons_zero]
        refine wpAnyH_ready (rs := [4]) (by kernel_rfl) (by simp) ?_
        refine AllReadyH.cons rfl (fun K hK => ?_) AllReadyH.nil
        go_simp
        go_at_call 31
        refine (l1PickInt_any B c a len cap (X).heap.size 0 6 6 (fun x => -1 ≤ x ∧ x ≤ 2147483647) (W2) (by omega) (by omega) (by omega) (by omega) (by omega) cu2 ea2).mono ?_
        rintro e Y3 ⟨xa, rfl, ⟨xa0, xa1⟩, cu3, g3⟩
        have z3' := g3.size
        try simp at z3'
        have S3 := gck g3 S2 (by omega)
        have own3 := OwnT.kept own2 g3 (by omega)
        have G3 := grownBy.trans G2 g3
        have fr3 := gfk g3 fr2 (by omega) (by omega)
        have ca3 := gck g3 ca2 (by omega)
        have fa3 := gfk g3 fa2 (by omega) (by omega)
        have ea3 := Elems.keep ea2 (g3.block _ (by omega) (by simp; omega))
        have eb3 := Elems.keep eb2 (g3.block _ (by omega) (by simp; omega))
        refine hK.out _ _ S3 (fun hHeld => ?_)
        clear hK K
        try simp only [Act.put, List.setIfInBounds_toArray, List.set_cons_zero, List.set_cons_succ, List.getElem_toArray, List.getElem_cons_succ, List.getElem_cons_zero]
        refine wpAnyH_ready (rs := [7]) (by kernel_rfl) (by simp) ?_
        refine AllReadyH.cons rfl (fun K hK => ?_) AllReadyH.nil
        go_simp
        go_at_call 31
        refine (l1PickInt_any B c a len cap (W1).heap.size 0 5 5 (fun x => -1 ≤ x ∧ x ≤ 2147483647) (Y3) (by omega) (by omega) (by omega) (by omega) (by omega) cu3 eb3).mono ?_
        rintro e Y4 ⟨xb, rfl, ⟨xb0, xb1⟩, cu4, g4⟩
        have z4' := g4.size
        try simp at z4'
        have S4 := gck g4 S3 (by omega)
        have own4 := OwnT.kept own3 g4 (by omega)
        have G4 := grownBy.trans G3 g4
        have fr4 := gfk g4 fr3 (by omega) (by omega)
        have ca4 := gck g4 ca3 (by omega)
        have fa4 := gfk g4 fa3 (by omega) (by omega)
        have ea4 := Elems.keep ea3 (g4.block _ (by omega) (by simp; omega))
        have eb4 := Elems.keep eb3 (g4.block _ (by omega) (by simp; omega))
        refine hK.out _ _ S4 (fun hHeld => ?_)
        clear hK K
        try simp only [Act.put, List.setIfInBounds_toArray, List.set_cons_zero, List.set_cons_succ, List.getElem_toArray, List.getElem_cons_succ, List.getElem_cons_zero]
        refine wpAnyH_take (i := 8) rfl (by kernel_rfl) (by kernel_rfl) (by kernel_rfl) (fun _ _ _ h => h) (v := ?_) (Or.inl ⟨by rfl, ?_⟩) (by assumption) ?_
        case refine_2 => (intro w hSw; (try dsimp only at hSw); go_simp; (try with_reducible rfl))
        try simp only [Act.put, List.setIfInBounds_toArray, List.set_cons_zero, List.set_cons_succ, List.getElem_toArray, List.getElem_cons_succ, List.getElem_cons_zero]
        refine wpAnyH_ready (rs := [9]) (by kernel_rfl) (by simp) ?_
        refine AllReadyH.cons rfl (fun K hK => ?_) AllReadyH.nil
        go_simp
        obtain ⟨W5, hW5⟩ : ∃ W, W = (Y4).alloc (.cells #[.int .i64 xa, .int .i64 xb] 48) := ⟨_, rfl⟩
        rw [← hW5]
        have g5 : (Y4).grownBy W5 (some c) := by rw [hW5]; exact grownBy.alloc (grownBy.refl _ _) _
        have zz5 : (Y4).heap.size + 1 ≤ W5.heap.size := by rw [hW5]; simp
        have cu5 : Cur B W5 c a len cap := by rw [hW5]; exact cur_below cu4 (by omega) ((Below.refl _ _).alloc (Nat.le_refl _) _)
        have ct5 : ∀ j u, [Value.int .i64 xa, Value.int .i64 xb][j]? = some u → W5.cell? ((⟨(Y4).heap.size, 0, none⟩ : Addr).add j) = some u := by rw [hW5]; exact cells_two_new _ _ _ _
        clear hW5
        have z5' := g5.size
        try simp at z5'
        have S5 := gck g5 S4 (by omega)
        have own5 := OwnT.kept own4 g5 (by omega)
        have G5 := grownBy.trans G4 g5
        have fr5 := gfk g5 fr4 (by omega) (by omega)
        have ca5 := gck g5 ca4 (by omega)
        have fa5 := gfk g5 fa4 (by omega) (by omega)
        have ea5 := Elems.keep ea4 (g5.block _ (by omega) (by simp; omega))
        have eb5 := Elems.keep eb4 (g5.block _ (by omega) (by simp; omega))
        refine hK.out _ _ S5 (fun hHeld => ?_)
        clear hK K
        try simp only [Act.put, List.setIfInBounds_toArray, List.set_cons_zero, List.set_cons_succ, List.getElem_toArray, List.getElem_cons_succ, List.getElem_cons_zero]
        refine wpAnyH_ready (rs := [10]) (by kernel_rfl) (by simp) ?_
        refine AllReadyH.cons rfl (fun K hK => ?_) AllReadyH.nil
        refine step_append_lies W5 rfl _ _ 23 rfl (w.heap.size + 1) 48 i0 (.agg #[.int .i64 0, .int .i64 0]) 2 16 Try.underlying23 hi0 hz0 hz1 hz2 rfl (by decide) (.slice au ts.length ku) ts.length (cells ts) rfl own5 ⟨(Y4).heap.size, 0, none⟩ 1 1 [.int .i64 xa, .int .i64 xb] rfl rfl ct5 (by intro u hu; simp only [List.mem_cons, List.not_mem_nil, or_false] at hu; rcases hu with rfl | rfl <;> rfl) (by omega) (by unfold maxLen; omega) (by omega) (by omega) _ rfl ?_
        intro g cp V own9 grow9 at9 lt9
        have rl := fun b e => (World.ownsRow.lt own5 b e).1
        have nb : Value.ownBlock (.slice au ts.length ku) ≠ some v1.heap.size := fun e => hown _ e rfl
        have S9 := (grow9.cell_far ⟨v1.heap.size, 0, none⟩ (by show v1.heap.size < _; omega) (fun e => nb e.symm)).trans S5
        have R9 := (grow9.frozen_far ⟨v1.heap.size, 0, none⟩ (by show v1.heap.size < _; omega) (fun e => nb e.symm)).trans fr5
        have A9 := (grow9.cell_far ⟨w.heap.size, 0, none⟩ (by show w.heap.size < _; omega) (fun e => absurd (show w.heap.size + 1 ≤ w.heap.size from rl _ e.symm) (by omega))).trans ca5
        have F9 := (grow9.frozen_far ⟨w.heap.size, 0, none⟩ (by show w.heap.size < _; omega) (fun e => absurd (show w.heap.size + 1 ≤ w.heap.size from rl _ e.symm) (by omega))).trans fa5
        have cu9 := cur_own cu5 (base := w.heap.size + 1) (by omega) (by omega) (by omega) own5 grow9
        have G9 := grown_own G5 (by omega) own5 grow9
        have z9 := grow9.size
        have hg9 : w.heap.size + 1 ≤ g ∧ g ≠ v1.heap.size := by
          refine ⟨(own9.lt g rfl).1, ?_⟩
          rcases at9 with e | e
          · intro q; exact hown g e q
          · omega
        refine hK.out _ _ S9 (fun hHeld => ?_)
        clear hK K
        try simp only [Act.put, List.setIfInBounds_toArray, List.set_cons_zero, List.set_cons_succ, List.getElem_toArray, List.getElem_cons_succ, List.getElem_cons_zero]
        refine wpAnyH_take (i := 11) rfl (by kernel_rfl) (by kernel_rfl) (by kernel_rfl) (fun _ _ _ h => h) (v := ?_) (Or.inl ⟨by rfl, ?_⟩) (by assumption) ?_
        case refine_2 => (intro w hSw; (try dsimp only at hSw); go_simp; (try with_reducible rfl))
        try simp only [Act.put, List.setIfInBounds_toArray, List.set_cons_zero, List.set_cons_succ, List.getElem_toArray, List.getElem_cons_succ, List.getElem_cons_zero]
        refine wpAnyH_done (by kernel_rfl) ?_ _
        show Oper.wp _ _ _ _ _ _
        have O9 := Lib.hid own9
        have HS := Lib.hid (And.intro S9 R9)
        have zV : w.heap.size < V.heap.size := by omega
        clear S9 own9 grow9 at9 rl nb own5 ea5 eb5 ca5 fa5 fr5 G5 cu5 hHeld
        have S9 := HS.out.1
        have R9 := HS.out.2
        go_simp
        go_wp2_with fail
        have e9 : ts ++ [(xa, xb)] = ts ++ [(xa, xb)] := rfl
        exact bodyPost_ret (v := .agg #[.slice (some ⟨g, 0, none⟩) (ts.length + 1) cp]) (by simp [results, Try.results27, go_sem, World.cell?_setCell_same' (V.setCell ⟨v1.heap.size, 0, none⟩ (.slice (some ⟨g, 0, none⟩) (ts.length + 1) cp)) ⟨w.heap.size, 0, none⟩ (.slice (some ⟨g, 0, none⟩) (ts.length + 1) cp) (by rw [World.cell?_setCell_other _ _ _ _ (by first | (simp; done) | (simp; omega)), A9]; rfl)]) rfl (bent_end O9.out HF.out ⟨xa0, xa1⟩ ⟨xb0, xb1⟩ hg9.1 hg9.2 cu9 G9 (by omega) (by omega) (by omega) (by omega) HBD.out)
    · go_simp
      obtain ⟨W1, hW1⟩ : ∃ W, W = (X).alloc (.cells #[.int .i64 0, .int .i64 1, .int .i64 2147483646, .int .i64 2147483647, .int .i64 (-1)] 3) := ⟨_, rfl⟩
      rw [← hW1]
      have g1 : (X).grownBy W1 (some c) := by rw [hW1]; exact grownBy.alloc (grownBy.refl _ _) _
      have zz1 : (X).heap.size + 1 ≤ W1.heap.size := by rw [hW1]; simp
      have cu1 : Cur B W1 c a len cap := by rw [hW1]; exact cur_below CU0 (by omega) ((Below.refl _ _).alloc (Nat.le_refl _) _)
      have eb1 : Elems W1 (X).heap.size 0 5 (fun x => -1 ≤ x ∧ x ≤ 2147483647) := by rw [hW1]; exact Elems.new (l := [0, 1, 2147483646, 2147483647, -1]) _ rfl (by intro v hv; simp only [List.mem_cons, List.not_mem_nil, or_false] at hv; rcases hv with rfl | rfl | rfl | rfl | rfl <;> omega)
      clear hW1
      have z1' := g1.size
      try simp at z1'
      have S1 := gck g1 S0 (by omega)
      have own1 := OwnT.kept own0 g1 (by omega)
      have G1 := grownBy.trans G0 g1
      have fr1 := gfk g1 fr0 (by omega) (by omega)
      have ca1 := gck g1 ca0 (by omega)
      have fa1 := gfk g1 fa0 (by omega) (by omega)
      refine hK.out _ _ S1 (fun hHeld => ?_)
      clear hK K
      try simp only [Act.put, List.setIfInBounds_toArray, List.set_cons_zero, List.set_cons_succ, List.getElem_toArray, List.getElem_cons_succ, List.getElem_cons_zero]
      refine wpAnyH_ready (rs := [3]) (by kernel_rfl) (by simp) ?_
      refine AllReadyH.cons rfl (fun K hK => ?_) AllReadyH.nil
      go_simp
      obtain ⟨W2, hW2⟩ : ∃ W, W = (W1).alloc (.cells #[.int .i64 (-1), .int .i64 0, .int .i64 5, .int .i64 7, .int .i64 2999, .int .i64 3000] 3) := ⟨_, rfl⟩
      rw [← hW2]
      have g2 : (W1).grownBy W2 (some c) := by rw [hW2]; exact grownBy.alloc (grownBy.refl _ _) _
      have zz2 : (W1).heap.size + 1 ≤ W2.heap.size := by rw [hW2]; simp
      have cu2 : Cur B W2 c a len cap := by rw [hW2]; exact cur_below cu1 (by omega) ((Below.refl _ _).alloc (Nat.le_refl _) _)
      have ea2 : Elems W2 (W1).heap.size 0 6 (fun x => -1 ≤ x ∧ x ≤ 2147483647) := by rw [hW2]; exact Elems.new (l := [-1, 0, 5, 7, 2999, 3000]) _ rfl (by intro v hv; simp only [List.mem_cons, List.not_mem_nil, or_false] at hv; rcases hv with rfl | rfl | rfl | rfl | rfl | rfl <;> omega)
      clear hW2
      have z2' := g2.size
      try simp at z2'
      have S2 := gck g2 S1 (by omega)
      have own2 := OwnT.kept own1 g2 (by omega)
      have G2 := grownBy.trans G1 g2
      have fr2 := gfk g2 fr1 (by omega) (by omega)
      have ca2 := gck g2 ca1 (by omega)
      have fa2 := gfk g2 fa1 (by omega) (by omega)
      have eb2 := Elems.keep eb1 (g2.block _ (by omega) (by simp; omega))
      refine hK.out _ _ S2 (fun hHeld => ?_)
      clear hK K
      try simp only [Act.put, List.setIfInBounds_toArray, List.set_cons_zero, List.set_cons_succ, List.getElem_toArray, List.getElem_cons_succ, List.getElem_cons_zero]
      refine wpAnyH_ready (rs := [4]) (by kernel_rfl) (by simp) ?_
      refine AllReadyH.cons rfl (fun K hK => ?_) AllReadyH.nil
      go_simp
      go_at_call 31
      refine (l1PickInt_any B c a len cap (W1).heap.size 0 6 6 (fun x => -1 ≤ x ∧ x ≤ 2147483647) (W2) (by omega) (by omega) (by omega) (by omega) (by omega) cu2 ea2).mono ?_
      rintro e Y3 ⟨xa, rfl, ⟨xa0, xa1⟩, cu3, g3⟩
      have z3' := g3.size
      try simp at z3'
      have S3 := gck g3 S2 (by omega)
      have own3 := OwnT.kept own2 g3 (by omega)
      have G3 := grownBy.trans G2 g3
      have fr3 := gfk g3 fr2 (by omega) (by omega)
      have ca3 := gck g3 ca2 (by omega)
      have fa3 := gfk g3 fa2 (by omega) (by omega)
      have eb3 := Elems.keep eb2 (g3.block _ (by omega) (by simp; omega))
      have ea3 := Elems.keep ea2 (g3.block _ (by omega) (by simp; omega))
      refine hK.out _ _ S3 (fun hHeld => ?_)
      clear hK K
      try simp only [Act.put, List.setIfInBounds_toArray, List.set_cons_zero, List.set_cons_succ, List.getElem_toArray, List.getElem_cons_succ, List.getElem_cons_zero]
      refine wpAnyH_ready (rs := [7]) (by kernel_rfl) (by simp) ?_
      refine AllReadyH.cons rfl (fun K hK => ?_) AllReadyH.nil
      go_simp
      go_at_call 31
      refine (l1PickInt_any B c a len cap (X).heap.size 0 5 5 (fun x => -1 ≤ x ∧ x ≤ 2147483647) (Y3) (by omega) (by omega) (by omega) (by omega) (by omega) cu3 eb3).mono ?_
      rintro e Y4 ⟨xb, rfl, ⟨xb0, xb1⟩, cu4, g4⟩
      have z4' := g4.size
      try simp at z4'
      have S4 := gck g4 S3 (by omega)
      have own4 := OwnT.kept own3 g4 (by omega)
      have G4 := grownBy.trans G3 g4
      have fr4 := gfk g4 fr3 (by omega) (by omega)
      have ca4 := gck g4 ca3 (by omega)
      have fa4 := gfk g4 fa3 (by omega) (by omega)
      have eb4 := Elems.keep eb3 (g4.block _ (by omega) (by simp; omega))
      have ea4 := Elems.keep ea3 (g4.block _ (by omega) (by simp; omega))
      refine hK.out _ _ S4 (fun hHeld => ?_)
      clear hK K
      try simp only [Act.put, List.setIfInBounds_toArray, List.set_cons_zero, List.set_cons_succ, List.getElem_toArray, List.getElem_cons_succ, List.getElem_cons_zero]
      refine wpAnyH_take (i := 8) rfl (by kernel_rfl) (by kernel_rfl) (by kernel_rfl) (fun _ _ _ h => h) (v := ?_) (Or.inl ⟨by rfl, ?_⟩) (by assumption) ?_
      case refine_2 => (intro w hSw; (try dsimp only at hSw); go_simp; (try with_reducible rfl))
      try simp only [Act.put, List.setIfInBounds_toArray, List.set_cons_zero, List.set_cons_succ, List.getElem_toArray, List.getElem_cons_succ, List.getElem_cons_zero]
      refine wpAnyH_ready (rs := [9]) (by kernel_rfl) (by simp) ?_
      refine AllReadyH.cons rfl (fun K hK => ?_) AllReadyH.nil
      go_simp
      obtain ⟨W5, hW5⟩ : ∃ W, W = (Y4).alloc (.cells #[.int .i64 xa, .int .i64 xb] 48) := ⟨_, rfl⟩
      rw [← hW5]
      have g5 : (Y4).grownBy W5 (some c) := by rw [hW5]; exact grownBy.alloc (grownBy.refl _ _) _
      have zz5 : (Y4).heap.size + 1 ≤ W5.heap.size := by rw [hW5]; simp
      have cu5 : Cur B W5 c a len cap := by rw [hW5]; exact cur_below cu4 (by omega) ((Below.refl _ _).alloc (Nat.le_refl _) _)
      have ct5 : ∀ j u, [Value.int .i64 xa, Value.int .i64 xb][j]? = some u → W5.cell? ((⟨(Y4).heap.size, 0, none⟩ : Addr).add j) = some u := by rw [hW5]; exact cells_two_new _ _ _ _
      clear hW5
      have z5' := g5.size
      try simp at z5'
      have S5 := gck g5 S4 (by omega)
      have own5 := OwnT.kept own4 g5 (by omega)
      have G5 := grownBy.trans G4 g5
      have fr5 := gfk g5 fr4 (by omega) (by omega)
      have ca5 := gck g5 ca4 (by omega)
      have fa5 := gfk g5 fa4 (by omega) (by omega)
      have eb5 := Elems.keep eb4 (g5.block _ (by omega) (by simp; omega))
      have ea5 := Elems.keep ea4 (g5.block _ (by omega) (by simp; omega))
      refine hK.out _ _ S5 (fun hHeld => ?_)
      clear hK K
      try simp only [Act.put, List.setIfInBounds_toArray, List.set_cons_zero, List.set_cons_succ, List.getElem_toArray, List.getElem_cons_succ, List.getElem_cons_zero]
      refine wpAnyH_ready (rs := [10]) (by kernel_rfl) (by simp) ?_
      refine AllReadyH.cons rfl (fun K hK => ?_) AllReadyH.nil
      refine step_append_lies W5 rfl _ _ 23 rfl (w.heap.size + 1) 48 i0 (.agg #[.int .i64 0, .int .i64 0]) 2 16 Try.underlying23 hi0 hz0 hz1 hz2 rfl (by decide) (.slice au ts.length ku) ts.length (cells ts) rfl own5 ⟨(Y4).heap.size, 0, none⟩ 1 1 [.int .i64 xa, .int .i64 xb] rfl rfl ct5 (by intro u hu; simp only [List.mem_cons, List.not_mem_nil, or_false] at hu; rcases hu with rfl | rfl <;> rfl) (by omega) (by unfold maxLen; omega) (by omega) (by omega) _ rfl ?_
      intro g cp V own9 grow9 at9 lt9
      have rl := fun b e => (World.ownsRow.lt own5 b e).1
      have nb : Value.ownBlock (.slice au ts.length ku) ≠ some v1.heap.size := fun e => hown _ e rfl
      have S9 := (grow9.cell_far ⟨v1.heap.size, 0, none⟩ (by show v1.heap.size < _; omega) (fun e => nb e.symm)).trans S5
      have R9 := (grow9.frozen_far ⟨v1.heap.size, 0, none⟩ (by show v1.heap.size < _; omega) (fun e => nb e.symm)).trans fr5
      have A9 := (grow9.cell_far ⟨w.heap.size, 0, none⟩ (by show w.heap.size < _; omega) (fun e => absurd (show w.heap.size + 1 ≤ w.heap.size from rl _ e.symm) (by omega))).trans ca5
      have F9 := (grow9.frozen_far ⟨w.heap.size, 0, none⟩ (by show w.heap.size < _; omega) (fun e => absurd (show w.heap.size + 1 ≤ w.heap.size from rl _ e.symm) (by omega))).trans fa5
      have cu9 := cur_own cu5 (base := w.heap.size + 1) (by omega) (by omega) (by omega) own5 grow9
      have G9 := grown_own G5 (by omega) own5 grow9
      have z9 := grow9.size
      have hg9 : w.heap.size + 1 ≤ g ∧ g ≠ v1.heap.size := by
        refine ⟨(own9.lt g rfl).1, ?_⟩
        rcases at9 with e | e
        · intro q; exact hown g e q
        · omega
      refine hK.out _ _ S9 (fun hHeld => ?_)
      clear hK K
      try simp only [Act.put, List.setIfInBounds_toArray, List.set_cons_zero, List.set_cons_succ, List.getElem_toArray, List.getElem_cons_succ, List.getElem_cons_zero]
      refine wpAnyH_take (i := 11) rfl (by kernel_rfl) (by kernel_rfl) (by kernel_rfl) (fun _ _ _ h => h) (v := ?_) (Or.inl ⟨by rfl, ?_⟩) (by assumption) ?_
      case refine_2 => (intro w hSw; (try dsimp only at hSw); go_simp; (try with_reducible rfl))
      try simp only [Act.put, List.setIfInBounds_toArray, List.set_cons_zero, List.set_cons_succ, List.getElem_toArray, List.getElem_cons_succ, List.getElem_cons_zero]
      refine wpAnyH_done (by kernel_rfl) ?_ _
      show Oper.wp _ _ _ _ _ _
      have O9 := Lib.hid own9
      have HS := Lib.hid (And.intro S9 R9)
      have zV : w.heap.size < V.heap.size := by omega
      clear S9 own9 grow9 at9 rl nb own5 ea5 eb5 ca5 fa5 fr5 G5 cu5 hHeld
      have S9 := HS.out.1
      have R9 := HS.out.2
      go_simp
      go_wp2_with fail
      have e9 : ts ++ [(xa, xb)] = ts ++ [(xa, xb)] := rfl
      exact bodyPost_ret (v := .agg #[.slice (some ⟨g, 0, none⟩) (ts.length + 1) cp]) (by simp [results, Try.results27, go_sem, World.cell?_setCell_same' (V.setCell ⟨v1.heap.size, 0, none⟩ (.slice (some ⟨g, 0, none⟩) (ts.length + 1) cp)) ⟨w.heap.size, 0, none⟩ (.slice (some ⟨g, 0, none⟩) (ts.length + 1) cp) (by rw [World.cell?_setCell_other _ _ _ _ (by first | (simp; done) | (simp; omega)), A9]; rfl)]) rfl (bent_end O9.out HF.out ⟨xa0, xa1⟩ ⟨xb0, xb1⟩ hg9.1 hg9.2 cu9 G9 (by omega) (by omega) (by omega) (by omega) HBD.out)
theorem l2bent_any (B c : Nat) (a : Option Addr) (len cap : Nat) (w : World) (hB : B ≤ w.heap.size) (hcur : Cur B w c a len cap) :
    Calls Try.prog 27 #[.pointer (some ⟨c, 0, none⟩)] w (DrawnL B c a len cap w) := by
  refine (l2bent_wide B c a len cap w hB hcur).mono ?_
  rintro e w' ⟨u, ts, h1, h2, h3, h4, h5, -⟩
  exact ⟨u, ts, h1, h2, h3, h4, h5⟩
end Go.Proofs.Ytoeklalhbkdjnaa.L
