/- The draws of lists of layer 1. -/
import Derived.Test.YtohngajjmlldjaaDrawF
import Derived.Test.YtohngajjmlldjaaSlices
namespace Go.Proofs.Ytohngajjmlldjaa
open Go.RowKit
set_option linter.unusedVariables false

theorem intInfo : (Try.prog.info? 3).map (fun i => (i.zero, i.size, i.bytes)) = some (some (.int .i64 0), 1, 8) := by kernel_rfl

theorem own_ne {w : World} {base : Nat} {e : TypeId} {size : Nat} {v : Value} {n : Nat} {xs : List Value} (h : w.ownsRow base e size v n xs) {c : Nat} (hc : c < base) : v.ownBlock ≠ some c := by
  intro e
  have := (h.lt _ e).1
  omega

theorem grown_own {w w' w'' : World} {base c : Nat} {e : TypeId} {size : Nat} {v : Value} {n : Nat} {xs : List Value} (h : w.grownBy w' (some c)) (hb : w.heap.size ≤ base) (ho : w'.ownsRow base e size v n xs) (hg : w'.grownBy w'' v.ownBlock) : w.grownBy w'' (some c) :=
  ⟨hg.os.trans h.os, hg.tape.trans h.tape, hg.output.trans h.output, Nat.le_trans h.size hg.size, fun k hk hn =>
    (hg.block k (Nat.lt_of_lt_of_le hk h.size) (fun e => by have := (ho.lt k e.symm).1; omega)).trans (h.block k hk hn)⟩

/-- A cursor stays behind a write to a row of one's own. -/
theorem Cur.own {B : Nat} {w w' : World} {c base : Nat} {a : Option Addr} {len cap : Nat} {e : TypeId} {size : Nat} {v : Value} {n : Nat} {xs : List Value} (h : Cur B w c a len cap) (hB : B ≤ base) (hc : c < base) (hs : base ≤ w.heap.size) (ho : w.ownsRow base e size v n xs) (hg : w.grownBy w' v.ownBlock) : Cur B w' c a len cap := by
  have hlt : ∀ k, v.ownBlock = some k → base ≤ k := fun k hk => (ho.lt k hk).1
  exact h.keep ((Below.refl B w).grown hg (by omega) (fun k e => by have := hlt k e; omega)) (hg.block c (by omega) (fun e => by have := hlt c e.symm; omega))

/-- A list that was drawn: a row of one's own from base on. -/
def Listed (B base c : Nat) (a : Option Addr) (len cap : Nat) (m : Nat) (w : World) (e : Ending) (w' : World) : Prop :=
  ∃ (v : Value) (xs : List Int), e = .returned v ∧ xs.length = m ∧ (∀ x ∈ xs, Fits x) ∧ w'.ownsRow base 3 1 v m (xs.map (Value.int .i64)) ∧ Cur B w' c a len cap ∧ w.grownBy w' (some c)

set_option maxHeartbeats 400000 in
theorem l1Once_any (B c : Nat) (a : Option Addr) (len cap : Nat) (n : Int) (w : World) (n1 : n ≤ 9223372036854775807) (hB : B ≤ w.heap.size) (hcur : Cur B w c a len cap) :
    Calls Try.prog 53 #[.pointer (some ⟨c, 0, none⟩), .int .i64 n] w fun e w' => ∃ b : Bool, e = .returned (.bool b) ∧ Cur B w' c a len cap ∧ w.grownBy w' (some c) := by
  go_enter Try.func53, Try.ntmps53
  go_wp2_with fail
  refine (l1Below_any B c a len cap _ _ n1 hB hcur).mono ?_
  rintro e w1 ⟨x, rfl, hx, cu, gr⟩
  go_wp2_with fail
  go_ret
  exact ⟨_, rfl, cu, gr⟩

set_option maxRecDepth 100000 in
set_option maxHeartbeats 3200000 in
theorem l1list_any (B c : Nat) (a : Option Addr) (len cap : Nat) (m : Nat) (w : World) (hm : m ≤ 1000) (hB : B ≤ w.heap.size) (hcur : Cur B w c a len cap) :
    Calls Try.prog 51 #[.pointer (some ⟨c, 0, none⟩), .int .i64 m] w (Listed B w.heap.size c a len cap m w) := by
  obtain ⟨i0, hi, hz0, hz1, hz2⟩ := info_parts intInfo
  have hcs : c < w.heap.size := World.block_lt_of_cell? w ⟨c, 0, none⟩ hcur.c0
  go_enter Try.func51, Try.ntmps51
  go_wp2_with fail
  go_loopw [5, 6] (fun v i wr => ∃ (k : Nat) (xs : List Int), k ≤ m ∧ i = .int .i64 k ∧ xs.length = k ∧ (∀ x ∈ xs, Fits x) ∧ wr.ownsRow w.heap.size 3 1 v k (xs.map (Value.int .i64)) ∧ Cur B wr c a len cap ∧ w.grownBy wr (some c)) (fun _ i _ => m - (intOf i).toNat)
  case atStart => exact ⟨0, [], Nat.zero_le _, rfl, rfl, by simp, World.ownsRow_nil _ _ _ _, hcur, grownBy.refl _ _⟩
  case round =>
    obtain ⟨k, xs, hk, rfl, hx, hfit, hown, cu, gr⟩ := hrel
    have hBr : B ≤ wr.heap.size := Nat.le_trans hB gr.size
    have hne := own_ne hown hcs
    by_cases hlt : k < m
    · go_wp2_with fail
      refine (l1Below_any B c a len cap _ _ (by omega) hBr cu).mono ?_
      rintro e w1 ⟨x, rfl, ⟨x0, x1⟩, cu1, gr1⟩
      have gr1' := grownBy.trans gr gr1
      have hown1 := hown.kept gr1 (.inr hne)
      have hB1 : B ≤ w1.heap.size := Nat.le_trans hBr gr1.size
      have hc1 : c < w1.heap.size := Nat.lt_of_lt_of_le hcs gr1'.size
      clear hown gr cu
      go_wp2_with fail
      have el := Elems.new (w := w1) (t := 3) (l := [0, 1, 2147483646, x]) (P := Fits) _ rfl (by
        intro v hv
        simp only [List.mem_cons, List.not_mem_nil, or_false] at hv
        unfold Fits
        omega)
      have cu2 := cu1.keep ((Below.refl B w1).alloc hB1 (.cells #[.int .i64 0, .int .i64 1, .int .i64 2147483646, .int .i64 x] 3)) (Below.heap_alloc _ _ _ hc1)
      refine (l1PickInt_any B c a len cap w1.heap.size 0 4 4 Fits _ (by omega) (by omega) (by omega) (by simp) (by simp; omega) cu2 el).mono ?_
      rintro e w3 ⟨y, rfl, hy, cu3, gr3⟩
      have gr3' := grownBy.trans (grownBy.alloc gr1' (.cells #[.int .i64 0, .int .i64 1, .int .i64 2147483646, .int .i64 x] 3)) gr3
      have hown3 := (hown1.alloc (.cells #[.int .i64 0, .int .i64 1, .int .i64 2147483646, .int .i64 x] 3)).kept gr3 (.inr hne)
      have hc3 : c < w3.heap.size := Nat.lt_of_lt_of_le hcs gr3'.size
      have hs3 : w.heap.size ≤ w3.heap.size := gr3'.size
      clear el cu1 cu2 gr1 gr1' gr3 hown1
      have cu4 := cu3.keep ((Below.refl B w3).alloc (by omega) (.cells #[.int .i64 y] 3)) (Below.heap_alloc _ _ _ hc3)
      have gr4 := grownBy.alloc gr3' (.cells #[.int .i64 y] 3)
      go_wp2_with (at_builtin; refine wpList_append_own _ rfl _ _ 30 rfl w.heap.size 3 i0 (.int .i64 0) 1 8 Try.underlying30 hi hz0 hz1 hz2 rfl (by decide) _ _ _ rfl (hown3.alloc _) ⟨w3.heap.size, 0, none⟩ 1 1 [.int .i64 y] rfl rfl ?c1 ?c2 ?c3 ?c4 ?c5 ?_)
      case c1 =>
        intro j u hj
        match j, hj with
        | 0, hj => simp at hj; subst hj; simp [Addr.add]
      case c2 => intro u hu; simp at hu; subst hu; rfl
      case c3 => unfold maxLen; omega
      case c4 => omega
      case c5 => simp; omega
      intro v' w5 hown5 hgr5 _
      have cu5 := cu4.own hB hcs (by simp; omega) (hown3.alloc _) hgr5
      have gr5 := grown_own gr4 (Nat.le_refl _) (hown3.alloc _) hgr5
      have fit5 : ∀ z ∈ xs ++ [y], Fits z := by
        intro z hz
        rcases List.mem_append.1 hz with hz | hz
        · exact hfit z hz
        · simp at hz; rw [hz]; exact hy
      have hown5' : w5.ownsRow w.heap.size 3 1 v' (k + 1) ((xs ++ [y]).map (Value.int .i64)) := by
        rw [List.map_append]; exact hown5
      clear hown5 hgr5 hown3 cu4 gr4 cu3 gr3'
      go_wp2_with fail
      go_roundw
      case rel => exact ⟨k + 1, xs ++ [y], by omega, by go_num, by simp [hx], fit5, hown5', cu5, gr5⟩
      case measure => simp [intOf]; omega
    · obtain rfl : k = m := by omega
      by_cases h0 : 0 < k
      · go_wp2_with fail
        refine (l1Once_any B c a len cap _ _ (by omega) hBr cu).mono ?_
        rintro e w1 ⟨bo, rfl, cu1, gr1⟩
        have gr1' := grownBy.trans gr gr1
        have hown1 := hown.kept gr1 (.inr hne)
        have hB1 : B ≤ w1.heap.size := Nat.le_trans hBr gr1.size
        clear hown gr cu gr1
        cases bo
        · go_wp2_with fail
          go_ret
          exact ⟨_, xs, rfl, hx, hfit, hown1, cu1, gr1'⟩
        · go_wp2_with fail
          refine (l1draw_any B c a len cap _ hB1 cu1).mono ?_
          rintro e w2 ⟨y, rfl, hy, cu2, gr2⟩
          have gr2' := grownBy.trans gr1' gr2
          have hown2 := hown1.kept gr2 (.inr hne)
          clear hown1 gr1' gr2 cu1
          rcases hown2.2 with ⟨_, h⟩ | ⟨g, cp, cur, rfl, hg0, _⟩
          · omega
          obtain ⟨x, tl, rfl⟩ : ∃ x tl, xs = x :: tl := by
            cases xs with
            | nil => simp at hx; omega
            | cons x tl => exact ⟨x, tl, rfl⟩
          have cw : w2.cell? ⟨g, 0, none⟩ = some (.int .i64 x) := by rw [hown2.cellAt 0 (by omega)]; rfl
          have fw : w2.frozen? ⟨g, 0, none⟩ = false := hown2.frozenAt 0
          obtain ⟨st, sg⟩ := hown2.stored 0 (.int .i64 y)
          have cu3 := cu2.own hB hcs gr2'.size hown2 sg
          have gr3 := grown_own gr2' (Nat.le_refl _) hown2 sg
          have fit3 : ∀ z ∈ y :: tl, Fits z := by
            intro z hz
            rcases List.mem_cons.1 hz with rfl | hz
            · exact hy
            · exact hfit z (List.mem_cons_of_mem _ hz)
          clear hown2 cu2 gr2' sg
          go_wp2_with fail
          go_ret
          exact ⟨_, y :: tl, rfl, by simpa using hx, fit3, st, cu3, gr3⟩
      · go_wp2_with fail
        go_ret
        exact ⟨_, xs, rfl, hx, hfit, hown, cu, gr⟩
end Go.Proofs.Ytohngajjmlldjaa
