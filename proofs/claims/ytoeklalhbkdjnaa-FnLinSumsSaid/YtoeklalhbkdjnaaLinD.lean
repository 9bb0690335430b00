/- The draws of layer 2. -/
import Derived.Test.YtoeklalhbkdjnaaList
import Derived.Test.YtoeklalhbkdjnaaSpecAddR
import Derived.Test.YtoeklalhbkdjnaaSpecLin
import Derived.Test.YtoeklalhbkdjnaaB4
import Derived.Test.YtoeklalhbkdjnaaB5
import Derived.Test.YtoeklalhbkdjnaaB3
namespace Go.Proofs.Ytoeklalhbkdjnaa.L
open Go.RowKit Go.Shelf Go.Proofs.Ytoeklalhbkdjnaa.S
set_option linter.unusedVariables false
set_option linter.unusedSimpArgs false

theorem gck {w w' : World} {c b j : Nat} {v : Value} (g : w.grownBy w' (some c)) (h : w.cell? ⟨b, j, none⟩ = some v) (hb : b ≠ c) : w'.cell? ⟨b, j, none⟩ = some v :=
  (cell_at (g.block b (World.block_lt_of_cell? w ⟨b, j, none⟩ h) (by simpa using hb)) j).trans h
theorem gfk {w w' : World} {c b j : Nat} (g : w.grownBy w' (some c)) (h : w.frozen? ⟨b, j, none⟩ = false) (hb : b ≠ c) (hl : b < w.heap.size) : w'.frozen? ⟨b, j, none⟩ = false :=
  (frozen_at (g.block b hl (by simpa using hb)) j).trans h
theorem bfk {w w' : World} {b j : Nat} (g : Below w.heap.size w w') (h : w.frozen? ⟨b, j, none⟩ = false) (hl : b < w.heap.size) : w'.frozen? ⟨b, j, none⟩ = false :=
  (g.frozen (p := ⟨b, j, none⟩) hl).trans h
theorem grown_set {w w' : World} {c b j : Nat} (g : w.grownBy w' (some c)) (hb : w.heap.size ≤ b) (v : Value) : w.grownBy (w'.setCell ⟨b, j, none⟩ v) (some c) :=
  ⟨g.os, g.tape, g.output, by rw [World.size_setCell]; exact g.size, fun i hi hn => (Below.heap_setCell _ _ _ _ (by simp; omega)).trans (g.block i hi hn)⟩
theorem grown_below {w w' : World} {r : Option Nat} (f : Below w.heap.size w w') : w.grownBy w' r := ⟨f.os, f.tape, f.output, f.size, fun i hi _ => f.block i hi⟩
theorem cur_below {B : Nat} {w w' : World} {c : Nat} {a : Option Addr} {len cap : Nat} (h : Cur B w c a len cap) (hB : B ≤ w.heap.size) (f : Below w.heap.size w w') : Cur B w' c a len cap :=
  h.keep (f.mono hB) (f.block c (World.block_lt_of_cell? w ⟨c, 0, none⟩ h.c0))
theorem cur_set {B : Nat} {w : World} {c b j : Nat} {v : Value} {a : Option Addr} {len cap : Nat} (h : Cur B w c a len cap) (hb : B ≤ b) (hc : b ≠ c) : Cur B (w.setCell ⟨b, j, none⟩ v) c a len cap :=
  h.keep ((Below.refl B w).setCell hb v) (Below.heap_setCell _ _ _ _ (by simp; omega))
def OwnT (w : World) (base : Nat) (u : Value) (ts : List T) : Prop := w.ownsRow base 48 2 u ts.length (cells ts)
theorem OwnT.terms {w : World} {base : Nat} {u : Value} {ts : List T} (h : OwnT w base u ts) (hf : ∀ t ∈ ts, Fits t.1 ∧ Fits t.2) : Terms true base w.heap.size w u ts := Terms.own h hf
theorem OwnT.kept {w w' : World} {base c : Nat} {u : Value} {ts : List T} (h : OwnT w base u ts) (g : w.grownBy w' (some c)) (hc : c < base) : OwnT w' base u ts := World.ownsRow.kept h g (.inr (own_ne h hc))
theorem OwnT.mono {w : World} {base base' : Nat} {u : Value} {ts : List T} (h : OwnT w base u ts) (hb : base' ≤ base) : OwnT w base' u ts := by
  refine ⟨h.1, ?_⟩
  rcases h.2 with q | ⟨g, cap, cur, e, h1, r⟩
  · exact .inl q
  · exact .inr ⟨g, cap, cur, e, Nat.le_trans hb h1, r⟩
theorem linOk_one {x : Int} (h0 : 0 ≤ x) (h1 : x < 3000) : linOk [(x, 1)] = true := by
  unfold linOk okFrom okFrom
  simp; omega

/-- A drawn combination in a row of one's own. -/
def DrawnO (B c : Nat) (a : Option Addr) (len cap : Nat) (w : World) (e : Ending) (w' : World) : Prop :=
  ∃ u ts, e = .returned (.agg #[u]) ∧ OwnT w' w.heap.size u ts ∧ linOk ts = true ∧ ts.length ≤ 3 ∧ Cur B w' c a len cap ∧ w.grownBy w' (some c)

set_option maxRecDepth 100000 in
set_option maxHeartbeats 3200000 in
theorem l2draw_any (B c : Nat) (a : Option Addr) (len cap : Nat) (n : Int) (w : World) (n0 : 0 < n) (n1 : n ≤ 3000) (hB : B ≤ w.heap.size) (hcur : Cur B w c a len cap) :
    Calls Try.prog 44 #[.pointer (some ⟨c, 0, none⟩), .int .i64 n] w (DrawnO B c a len cap w) := by
  have hcw : c < w.heap.size := World.block_lt_of_cell? w ⟨c, 0, none⟩ hcur.c0
  go_enter Try.func44, Try.ntmps44
  go_wp2_with fail
  refine name_call fun w1 hw1 => ?_
  have f1 : Below w.heap.size w w1 := by rw [hw1]; (repeat (with_reducible first | exact bR _ _ | assumption | refine bD ?_ | refine bN ?_ _ | refine bA ?_ _ | refine bS ?_ _))
  have z1 : w.heap.size + 2 ≤ w1.heap.size := by rw [hw1]; simp
  have c4 : w1.cell? ⟨w.heap.size, 0, none⟩ = some (.slice none 0 0) := by rw [hw1]; first | (simp; done) | go_simp
  have c5 : w1.cell? ⟨w.heap.size + 1, 0, none⟩ = some (.slice none 0 0) := by rw [hw1]; first | (simp; done) | go_simp
  have q4 : w1.frozen? ⟨w.heap.size, 0, none⟩ = false := by rw [hw1]; first | (simp; done) | go_simp
  have q5 : w1.frozen? ⟨w.heap.size + 1, 0, none⟩ = false := by rw [hw1]; first | (simp; done) | go_simp
  clear hw1
  have cu1 := cur_below hcur hB f1
  refine (l1Below_any B c a len cap 4 w1 (by omega) (by omega) cu1).mono ?_
  rintro e w2 ⟨m, rfl, ⟨m0, m1⟩, cu2, gr2⟩
  obtain ⟨m, rfl⟩ := Int.eq_ofNat_of_zero_le m0
  have hm : m ≤ 3 := by omega
  have d4 := gck gr2 c4 (by omega)
  have d5 := gck gr2 c5 (by omega)
  have r4 := gfk gr2 q4 (by omega) (by omega)
  have r5 := gfk gr2 q5 (by omega) (by omega)
  have z2 := gr2.size
  have G2 : w.grownBy w2 (some c) := grownBy.trans (grown_below f1) gr2
  clear c4 c5 q4 q5 cu1 gr2 f1 m0 m1
  go_wp2_with fail
  go_loopw [7] (fun i wr => ∃ (k : Nat) (u : Value) (ts : List T), k ≤ m ∧ i = .int .i64 k ∧ ts.length ≤ k ∧ linOk ts = true ∧ OwnT wr (w.heap.size + 2) u ts ∧ wr.cell? ⟨w.heap.size + 1, 0, none⟩ = some u ∧ wr.frozen? ⟨w.heap.size + 1, 0, none⟩ = false ∧ wr.cell? ⟨w.heap.size, 0, none⟩ = some (.slice none 0 0) ∧ wr.frozen? ⟨w.heap.size, 0, none⟩ = false ∧ Cur B wr c a len cap ∧ w.grownBy wr (some c) ∧ w.heap.size + 2 ≤ wr.heap.size) (fun i _ => m - (intOf i).toNat)
  case atStart => exact ⟨0, _, [], Nat.zero_le _, rfl, Nat.le_refl _, rfl, World.ownsRow_nil _ _ _ _, d5, r5, d4, r4, cu2, G2, by omega⟩
  case round =>
    obtain ⟨k, u, ts, hk, rfl, hl, hok, own, e5, p5, e4, p4, cu, G, zr⟩ := hrel
    clear d4 d5 r4 r5 cu2 G2
    obtain ⟨au, ku, rfl⟩ := own_slice own
    have HO := Lib.hid own
    have HK := Lib.hid hok
    clear own hok
    by_cases hlt : k < m
    · have S0 : wr.drew.cell? ⟨w.heap.size + 1, 0, none⟩ = some (.slice au ts.length ku) := e5
      have CU0 : Cur B wr.drew c a len cap := cu.keep ((Below.refl _ _).drew) rfl
      have zd0 : B ≤ wr.drew.heap.size := Nat.le_trans hB (Nat.le_trans (by omega) (Nat.le_refl wr.heap.size))
      have zdr : wr.drew.heap.size = wr.heap.size := rfl
      have zr1 : wr.heap.size ≤ wr.drew.heap.size := by omega
      have zr2 : wr.drew.heap.size ≤ wr.heap.size := by omega
      clear zdr
      go_wp2_with fail
      refine wp_region_tailL (S := (fun w' => w'.cell? ⟨w.heap.size + 1, 0, none⟩ = some (.slice au ts.length ku))) (by kernel_rfl) (by simp) (by kernel_rfl) S0 (fun hHeld => ?_)
      simp only [List.dropLast_cons_cons, List.dropLast_singleton, List.getLast_cons_cons, List.getLast_singleton]
      refine wpAnyH_take (i := 0) rfl (by kernel_rfl) (by kernel_rfl) (by kernel_rfl) (fun _ _ _ h => h) (v := ?_) (Or.inl ⟨by rfl, ?_⟩) (by assumption) ?_
      case refine_2 => (intro w hSw; (try dsimp only at hSw); go_simp; (try with_reducible rfl))
      try simp only [Act.put, List.setIfInBounds_toArray, List.set_cons_zero, List.set_cons_succ, List.getElem_toArray, List.getElem_cons_succ, List.getElem_cons_zero]
      refine wpAnyH_take (i := 1) rfl (by kernel_rfl) (by kernel_rfl) (by kernel_rfl) (fun _ _ _ h => h) (v := ?_) (Or.inl ⟨by rfl, ?_⟩) (by assumption) ?_
      case refine_2 => (intro w hSw; (try dsimp only at hSw); go_simp; (try with_reducible rfl))
      try simp only [Act.put, List.setIfInBounds_toArray, List.set_cons_zero, List.set_cons_succ, List.getElem_toArray, List.getElem_cons_succ, List.getElem_cons_zero]
      refine wpAnyH_take (i := 2) rfl (by kernel_rfl) (by kernel_rfl) (by kernel_rfl) (fun _ _ _ h => h) (v := ?_) (Or.inl ⟨by rfl, ?_⟩) (by assumption) ?_
      case refine_2 => (intro w hSw; (try dsimp only at hSw); go_simp; (try with_reducible rfl))
      try simp only [Act.put, List.setIfInBounds_toArray, List.set_cons_zero, List.set_cons_succ, List.getElem_toArray, List.getElem_cons_succ, List.getElem_cons_zero]
      refine wpAnyH_take (i := 5) rfl (by kernel_rfl) (by kernel_rfl) (by kernel_rfl) (fun _ _ _ h => h) (v := ?_) (Or.inl ⟨by rfl, ?_⟩) (by assumption) ?_
      case refine_2 => (intro w hSw; (try dsimp only at hSw); go_simp; (try with_reducible rfl))
      try simp only [Act.put, List.setIfInBounds_toArray, List.set_cons_zero, List.set_cons_succ, List.getElem_toArray, List.getElem_cons_succ, List.getElem_cons_zero]
      refine wpAnyH_take (i := 6) rfl (by kernel_rfl) (by kernel_rfl) (by kernel_rfl) (fun _ _ _ h => h) (v := ?_) (Or.inl ⟨by rfl, ?_⟩) (by assumption) ?_
      case refine_2 => (intro w hSw; (try dsimp only at hSw); go_simp; (try with_reducible rfl))
      try simp only [Act.put, List.setIfInBounds_toArray, List.set_cons_zero, List.set_cons_succ, List.getElem_toArray, List.getElem_cons_succ, List.getElem_cons_zero]
      refine wpAnyH_ready (rs := [3]) (by kernel_rfl) (by simp) ?_
      refine AllReadyH.cons rfl (fun K hK => ?_) AllReadyH.nil
      go_simp
      go_at_call 29
      refine (l1Below_any B c a len cap n wr.drew (by omega) zd0 CU0).mono ?_
      rintro e v1 ⟨x, rfl, ⟨x0, x1⟩, cu1, gr1⟩
      have s1 := gck gr1 S0 (by omega)
      have z1 := gr1.size
      have hB1 := Nat.le_trans zd0 z1
      refine hK.out _ _ s1 (fun hHeld => ?_)
      clear hK K
      try simp only [Act.put, List.setIfInBounds_toArray, List.set_cons_zero, List.set_cons_succ, List.getElem_toArray, List.getElem_cons_succ, List.getElem_cons_zero]
      refine wpAnyH_ready (rs := [4]) (by kernel_rfl) (by simp) ?_
      refine AllReadyH.cons rfl (fun K hK => ?_) AllReadyH.nil
      go_simp
      go_at_call 50
      refine (l2var_any x v1 (by omega) (by omega)).mono ?_
      rintro e v2 ⟨u2, rfl, f2, t2⟩
      obtain ⟨a2, k2, rfl, l2, b2⟩ := t2.shape
      have s2 := ck f2 s1
      have z2 := f2.size
      have hB2 := Nat.le_trans hB1 z2
      have cu2 := cur_below cu1 hB1 f2
      refine hK.out _ _ s2 (fun hHeld => ?_)
      clear hK K
      try simp only [Act.put, List.setIfInBounds_toArray, List.set_cons_zero, List.set_cons_succ, List.getElem_toArray, List.getElem_cons_succ, List.getElem_cons_zero]
      refine wpAnyH_ready (rs := [7]) (by kernel_rfl) (by simp) ?_
      refine AllReadyH.cons rfl (fun K hK => ?_) AllReadyH.nil
      go_simp
      go_at_call 29
      refine (l1Below_any B c a len cap 1073741824 v2 (by omega) hB2 cu2).mono ?_
      rintro e v3 ⟨y, rfl, ⟨y0, y1⟩, cu3, gr3⟩
      have s3 := gck gr3 s2 (by omega)
      have z3 := gr3.size
      have hB3 := Nat.le_trans hB2 z3
      have hc3 : c < v3.heap.size := World.block_lt_of_cell? v3 ⟨c, 0, none⟩ cu3.c0
      refine hK.out _ _ s3 (fun hHeld => ?_)
      clear hK K
      try simp only [Act.put, List.setIfInBounds_toArray, List.set_cons_zero, List.set_cons_succ, List.getElem_toArray, List.getElem_cons_succ, List.getElem_cons_zero]
      refine wpAnyH_ready (rs := [8]) (by kernel_rfl) (by simp) ?_
      refine AllReadyH.cons rfl (fun K hK => ?_) AllReadyH.nil
      go_simp
      have f4 : Below v3.heap.size v3 (v3.alloc (.cells #[.int .i64 1, .int .i64 1, .int .i64 2, .int .i64 (-1), .int .i64 255, .int .i64 y] 3)) := (Below.refl _ _).alloc (Nat.le_refl _) _
      have s4 := ck f4 s3
      have cu4 := cur_below cu3 hB3 f4
      have el := Elems.new (w := v3) (t := 3) (l := [1, 1, 2, -1, 255, y]) (P := fun x => -1 ≤ x ∧ x < 1073741824) _ rfl (by
        intro v hv
        simp only [List.mem_cons, List.not_mem_nil, or_false] at hv
        rcases hv with rfl | rfl | rfl | rfl | rfl | rfl <;> omega)
      refine hK.out _ _ s4 (fun hHeld => ?_)
      clear hK K
      try simp only [Act.put, List.setIfInBounds_toArray, List.set_cons_zero, List.set_cons_succ, List.getElem_toArray, List.getElem_cons_succ, List.getElem_cons_zero]
      refine wpAnyH_ready (rs := [9]) (by kernel_rfl) (by simp) ?_
      refine AllReadyH.cons rfl (fun K hK => ?_) AllReadyH.nil
      go_simp
      go_at_call 31
      refine (l1PickInt_any B c a len cap v3.heap.size 0 6 6 (fun x => -1 ≤ x ∧ x < 1073741824) (v3.alloc (.cells #[.int .i64 1, .int .i64 1, .int .i64 2, .int .i64 (-1), .int .i64 255, .int .i64 y] 3)) (by omega) (by omega) (by omega) (by simp) (by simp; omega) cu4 el).mono ?_
      rintro e v5 ⟨z, rfl, ⟨zz0, zz1⟩, cu5, gr5⟩
      have s5 := gck gr5 s4 (by omega)
      have z5 := gr5.size
      simp at z5
      have z5' : v3.heap.size + 1 ≤ v5.heap.size := by omega
      refine hK.out _ _ s5 (fun hHeld => ?_)
      clear hK K
      try simp only [Act.put, List.setIfInBounds_toArray, List.set_cons_zero, List.set_cons_succ, List.getElem_toArray, List.getElem_cons_succ, List.getElem_cons_zero]
      refine wpAnyH_ready (rs := [10]) (by kernel_rfl) (by simp) ?_
      refine AllReadyH.cons rfl (fun K hK => ?_) AllReadyH.nil
      go_simp
      go_at_call 51
      refine (fof_spec z v5 (by omega) (by omega)).mono ?_
      rintro e v6 ⟨rfl, rfl⟩
      refine hK.out _ _ s5 (fun hHeld => ?_)
      clear hK K
      try simp only [Act.put, List.setIfInBounds_toArray, List.set_cons_zero, List.set_cons_succ, List.getElem_toArray, List.getElem_cons_succ, List.getElem_cons_zero]
      refine wpAnyH_ready (rs := [11]) (by kernel_rfl) (by simp) ?_
      refine AllReadyH.cons rfl (fun K hK => ?_) AllReadyH.nil
      go_simp
      go_at_call 49
      have G5 : wr.grownBy v5 (some c) := grownBy.trans (grownBy.trans (grownBy.drew (grownBy.refl wr (some c))) gr1) (grownBy.trans (grown_below f2) (grownBy.trans gr3 (grownBy.trans (grown_below f4) gr5)))
      have T5 := (HO.out.kept G5 (by omega)).terms (linOk_fits HK.out)
      have U5 : Terms true v1.heap.size v2.heap.size v5 (.slice a2 [(x, (1 : Int))].length k2) [(x, 1)] := t2.agree (fun k h1 h2 => ((gr5.block k (by simp; omega) (by simp; omega)).trans (f4.block k (by omega))).trans (gr3.block k h2 (by simp; omega)))
      refine (l2add_row true (w.heap.size + 2) v5.heap.size (.slice au ts.length ku) ts true v1.heap.size v2.heap.size (.slice a2 [(x, (1 : Int))].length k2) [(x, 1)] (z % 2147483647) v5 T5 (Nat.le_refl _) U5 (by omega) (by omega) (by omega) (.of_ok HK.out) (.of_ok (linOk_one x0 (by omega))) (by omega) (by simp)).mono ?_
      rintro e v7 ⟨u7, rfl, f7, o7⟩
      obtain ⟨a7, k7, rfl⟩ := own_slice o7
      have s7 := ck f7 s5
      have z7 := f7.size
      refine hK.out _ _ s7 (fun hHeld => ?_)
      clear hK K
      try simp only [Act.put, List.setIfInBounds_toArray, List.set_cons_zero, List.set_cons_succ, List.getElem_toArray, List.getElem_cons_succ, List.getElem_cons_zero]
      refine wpAnyH_done (by kernel_rfl) ?_ _
      show Oper.wp _ _ _ _ _ _
      have G7 : wr.grownBy v7 (some c) := grownBy.trans G5 (grown_below f7)
      have cu7 := cur_below cu5 (by omega) f7
      have p7 := gfk G7 p5 (by omega) (by omega)
      have x4 := gck G7 e4 (by omega)
      have y4 := gfk G7 p4 (by omega) (by omega)
      have GG := grownBy.trans G G7
      have O7 := Lib.hid o7
      have zf : w.heap.size + 2 ≤ v7.heap.size := by omega
      have zb : B ≤ w.heap.size + 1 := by omega
      have zv : w.heap.size + 2 ≤ v5.heap.size := by omega
      have hml := mrg_length (z % 2147483647) ts [(x, 1)]
      have hml2 : (mrg (z % 2147483647) ts [(x, 1)]).length ≤ k + 1 := by simp at hml; omega
      clear hml S0 CU0 s1 s2 s3 s4 s5 cu1 cu2 cu3 cu4 cu5 gr1 gr3 gr5 f2 f4 f7 T5 U5 G5 G7 e5 p5 e4 p4 cu G el t2 o7 hHeld
      go_simp
      go_wp2_with fail
      go_roundw
      case rel =>
        have nb : ∀ b, Value.ownBlock (.slice a7 (mrg (z % 2147483647) ts [(x, 1)]).length k7) = some b → b ≠ w.heap.size + 1 := fun b e q => by have := (World.ownsRow.lt O7.out b e).1; omega
        refine ⟨k + 1, _, _, by omega, by go_num, hml2, linOk_mrg HK.out (linOk_one x0 (by omega)), ?_, World.cell?_setCell_same _ _ _ s7, by rw [World.frozen?_setCell]; exact p7, (World.cell?_setCell_other _ _ _ _ (by simp)).trans x4, by rw [World.frozen?_setCell]; exact y4, cur_set cu7 (by omega) (by omega), grown_set GG (by omega) _, by rw [World.size_setCell]; exact zf⟩
        have o8 : OwnT v7 (w.heap.size + 2) (.slice a7 (mrg (z % 2147483647) ts [(x, 1)]).length k7) (mrg (z % 2147483647) ts [(x, 1)]) := OwnT.mono O7.out (by omega)
        exact World.ownsRow.kept o8 (grownBy_setCell' v7 (w.heap.size + 1) _) (.inr (fun q => (nb _ q) rfl))
      case measure => simp [intOf]; omega
    · obtain rfl : k = m := by omega
      have hsz : w.heap.size < wr.heap.size := by omega
      go_wp2_with fail
      exact bodyPost_ret (v := .agg #[.slice au ts.length ku]) (by simp [results, Try.results44, go_sem, World.cell?_setCell_same' wr ⟨w.heap.size, 0, none⟩ (.slice au ts.length ku) (by rw [e4]; rfl)]) rfl ⟨_, ts, rfl, (OwnT.mono (World.ownsRow.kept HO.out (grownBy_setCell' wr w.heap.size _) (.inr (fun q => by have := (World.ownsRow.lt HO.out _ q).1; omega))) (by omega)), HK.out, by omega, cur_set cu (by omega) (by omega), grown_set G (Nat.le_refl _) _⟩
end Go.Proofs.Ytoeklalhbkdjnaa.L
