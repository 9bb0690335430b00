/- The drawn paths. -/
import Derived.Test.YtldeckiflghpcaaMixD
import Derived.Test.YtldeckiflghpcaaMixR
import Derived.Test.YtldeckiflghpcaaNumS
import Derived.Test.YtldeckiflghpcaaRow
namespace Go.Proofs.Ytldeckiflghpcaa.L
open Go.RowKit Go.Proofs.Ytldeckiflghpcaa.S
set_option linter.unusedVariables false
set_option linter.unusedSimpArgs false

theorem intsInfo' : (Try.prog.info? 24).map (fun i => (i.zero, i.size, i.bytes)) = some (some (.slice none 0 0), 1, 24) := by kernel_rfl
/-- Two rows that grow: one of slices of four small numbers, one of numbers. -/
structure PathD (w : World) (base : Nat) (vp vb : Value) (cs : List Value) (xss : List (List Int)) (bs : List Int) : Prop where
  p : w.ownsRow base 24 1 vp cs.length cs
  b : w.ownsRow base 3 1 vb bs.length (iv bs)
  len : cs.length = xss.length
  el : ∀ (j : Nat) (v : Value) (xs : List Int), cs[j]? = some v → xss[j]? = some xs → ∃ k, base ≤ k ∧ k < w.heap.size ∧ some k ≠ vp.ownBlock ∧ some k ≠ vb.ownBlock ∧ Nums false k (k + 1) w v xs ∧ xs.length = 4
  ne : ∀ k, vp.ownBlock = some k → vb.ownBlock ≠ some k

theorem Nums.at_block {o : Bool} {l h : Nat} {w : World} {v : Value} {xs : List Int} (t : Nums o l h w v xs) (hn : 0 < xs.length) : ∃ k, l ≤ k ∧ k < h ∧ Nums false k (k + 1) w v xs := by
  obtain ⟨a, cap, rfl, h1, h2, h3, h4⟩ := t
  rcases h4 with h4 | ⟨b, off, e, hl, hlt, hf, hc⟩
  · subst h4; simp at hn
  · exact ⟨b, hl, hlt, a, cap, rfl, h1, h2, h3, .inr ⟨b, off, e, Nat.le_refl _, Nat.lt_succ_self _, (fun h => by cases h), hc⟩⟩
theorem Nums.same1 {k : Nat} {w w' : World} {v : Value} {xs : List Int} (t : Nums false k (k + 1) w v xs) (h : w'.heap[k]? = w.heap[k]?) : Nums false k (k + 1) w' v xs :=
  t.agree (fun j h1 h2 => by rw [show j = k from by omega]; exact h)

theorem PathD.nil (w : World) (base : Nat) : PathD w base (.slice none 0 0) (.slice none 0 0) [] [] [] := ⟨World.ownsRow_nil _ _ _ _, World.ownsRow_nil _ _ _ _, rfl, fun j v xs h => by simp at h, fun k h => by simp [Value.ownBlock] at h⟩
theorem PathD.cur {w w' : World} {base c : Nat} {vp vb : Value} {cs : List Value} {xss : List (List Int)} {bs : List Int} (h : PathD w base vp vb cs xss bs) (g : w.grownBy w' (some c)) (hc : c < base) : PathD w' base vp vb cs xss bs where
  p := h.p.kept g (.inr (own_ne h.p hc))
  b := h.b.kept g (.inr (own_ne h.b hc))
  len := h.len
  el j v xs h1 h2 := by
    obtain ⟨k, q1, q2, q3, q4, q5, q6⟩ := h.el j v xs h1 h2
    exact ⟨k, q1, Nat.lt_of_lt_of_le q2 g.size, q3, q4, q5.same1 (g.block k q2 (by simp; omega)), q6⟩
  ne := h.ne
theorem PathD.pushP {w w' : World} {base k : Nat} {vp vb vp' v : Value} {cs : List Value} {xss : List (List Int)} {bs : List Int} {xs : List Int} (h : PathD w base vp vb cs xss bs) (hs : base ≤ w.heap.size)
    (hk : base ≤ k) (hk2 : k < w.heap.size) (n1 : some k ≠ vp.ownBlock) (n2 : some k ≠ vb.ownBlock) (t : Nums false k (k + 1) w v xs) (h4 : xs.length = 4)
    (own : w'.ownsRow base 24 1 vp' (cs.length + 1) (cs ++ [v])) (g : w.grownBy w' vp.ownBlock) (hv : vp'.ownBlock = vp.ownBlock ∨ vp'.ownBlock = some w.heap.size) : PathD w' base vp' vb (cs ++ [v]) (xss ++ [xs]) bs := by
  have far : ∀ q, q < w.heap.size → some q ≠ vp.ownBlock → some q ≠ vp'.ownBlock := by
    intro q hq hn
    rcases hv with e | e <;> rw [e]
    · exact hn
    · simp; omega
  have hb : vb.ownBlock = none ∨ vb.ownBlock ≠ vp.ownBlock := by
    cases e : vb.ownBlock with
    | none => exact .inl rfl
    | some m => exact .inr fun q => h.ne m q.symm e
  refine ⟨by simpa using own, h.b.kept g hb, by simp [h.len], fun j v' xs' h1 h2 => ?_, fun q hq => ?_⟩
  · by_cases hj : j < cs.length
    · rw [List.getElem?_append_left hj] at h1
      rw [List.getElem?_append_left (by rw [← h.len]; exact hj)] at h2
      obtain ⟨q, q1, q2, q3, q4, q5, q6⟩ := h.el j v' xs' h1 h2
      exact ⟨q, q1, Nat.lt_of_lt_of_le q2 g.size, far q q2 q3, q4, q5.same1 (g.block q q2 q3), q6⟩
    · have hj2 : j < (cs ++ [v]).length := (List.getElem?_eq_some_iff.1 h1).1
      obtain rfl : j = cs.length := by simp at hj2; omega
      rw [List.getElem?_append_right (Nat.le_refl _), Nat.sub_self] at h1
      rw [h.len, List.getElem?_append_right (Nat.le_refl _), Nat.sub_self] at h2
      simp at h1 h2
      subst h1; subst h2
      exact ⟨k, hk, Nat.lt_of_lt_of_le hk2 g.size, far k hk2 n1, n2, t.same1 (g.block k hk2 n1), h4⟩
  · rcases hv with e | e
    · exact h.ne q (e.symm.trans hq)
    · intro e2
      have := (h.b.lt q e2).2
      rw [e] at hq; simp at hq; omega
theorem PathD.pushB {w w' : World} {base : Nat} {vp vb vb' : Value} {cs : List Value} {xss : List (List Int)} {bs : List Int} {x : Int} (h : PathD w base vp vb cs xss bs)
    (own : w'.ownsRow base 3 1 vb' (bs.length + 1) (iv (bs ++ [x]))) (g : w.grownBy w' vb.ownBlock) (hv : vb'.ownBlock = vb.ownBlock ∨ vb'.ownBlock = some w.heap.size) : PathD w' base vp vb' cs xss (bs ++ [x]) := by
  have far : ∀ q, q < w.heap.size → some q ≠ vb.ownBlock → some q ≠ vb'.ownBlock := by
    intro q hq hn
    rcases hv with e | e <;> rw [e]
    · exact hn
    · simp; omega
  have hp : vp.ownBlock = none ∨ vp.ownBlock ≠ vb.ownBlock := by
    cases e : vp.ownBlock with
    | none => exact .inl rfl
    | some m => exact .inr fun q => h.ne m e q.symm
  refine ⟨h.p.kept g hp, by simpa using own, h.len, fun j v' xs' h1 h2 => ?_, fun q hq e => ?_⟩
  · obtain ⟨q, q1, q2, q3, q4, q5, q6⟩ := h.el j v' xs' h1 h2
    exact ⟨q, q1, Nat.lt_of_lt_of_le q2 g.size, q3, far q q2 q4, q5.same1 (g.block q q2 q4), q6⟩
  · have hlt := (h.p.lt q hq).2
    rcases hv with e1 | e1
    · exact h.ne q hq (e1.symm.trans e)
    · rw [e1] at e; simp at e; omega
theorem PathD.rows {w : World} {base : Nat} {vp vb : Value} {cs : List Value} {xss : List (List Int)} {bs : List Int} (h : PathD w base vp vb cs xss bs) : IntSS false 0 w.heap.size w vp xss := by
  rcases h.p.2 with ⟨rfl, h0⟩ | ⟨g, cap, cur, rfl, hb, hg, hc, hcm, hs, ht⟩
  · have : xss = [] := List.eq_nil_of_length_eq_zero (by rw [← h.len]; exact h0)
    subst this
    exact IntSS.nil
  · have hp := h.p
    refine ⟨some ⟨g, 0, none⟩, cap, by rw [h.len], by rw [← h.len]; exact hc, by unfold maxLen at hcm; omega, .inr ⟨g, 0, rfl, Nat.zero_le _, (hp.lt g rfl).2, (fun h => by cases h), fun j => [cs[j]?.getD (.int .i64 0)], fun _ => 0, fun _ => w.heap.size, (fun h => by cases h), fun j xs hj => ?_⟩⟩
    have hjl : j < cs.length := by rw [h.len]; exact (List.getElem?_eq_some_iff.1 hj).1
    have hcj : cs[j]? = some cs[j] := List.getElem?_eq_getElem hjl
    obtain ⟨k, q1, q2, q3, q4, q5, q6⟩ := h.el j _ xs hcj hj
    dsimp only
    rw [hcj]
    refine ⟨Nat.le_refl _, Nat.le_refl _, fun f x hf => ?_, cs[j], rfl, q5.mono (Nat.zero_le _) (by omega)⟩
    match f, hf with
    | 0, hf =>
      simp at hf; subst hf
      rw [show 0 + j * numsSh.wd + 0 = j from by show 0 + j * 1 + 0 = j; omega, hp.cellAt j (by omega)]
      exact hcj
    | f + 1, hf => simp at hf
theorem PathD.four {w : World} {base : Nat} {vp vb : Value} {cs : List Value} {xss : List (List Int)} {bs : List Int} (h : PathD w base vp vb cs xss bs) : ∀ t ∈ xss, t.length = 4 := by
  intro t ht
  obtain ⟨j, hj, rfl⟩ := List.mem_iff_getElem.1 ht
  have hjl : j < cs.length := by rw [h.len]; exact hj
  obtain ⟨k, q1, q2, q3, q4, q5, q6⟩ := h.el j _ _ (List.getElem?_eq_getElem hjl) (List.getElem?_eq_getElem hj)
  exact q6

/-- A leaf, a path and its bits. -/
def DrawnRt (w : World) (e : Ending) (w' : World) : Prop :=
  ∃ u0 u1 u2 leaf path bits, e = .returned (.tuple #[u0, u1, u2]) ∧ Ints w'.heap.size w' u0 leaf ∧ IntSS false 0 w'.heap.size w' u1 path ∧ Ints w'.heap.size w' u2 bits ∧ leaf.length = 4 ∧ path.length ≤ 4 ∧ bits.length ≤ 4 ∧ (∀ t ∈ path, t.length = 4) ∧ Below w.heap.size w w'

set_option maxRecDepth 100000 in
set_option maxHeartbeats 3200000 in
theorem drawRoot_any (a : Option Addr) (len cap : Nat) (w : World) (hr : Row w.heap.size w a len) :
    Calls Try.prog 30 #[.slice a len cap] w (DrawnRt w) := by
  obtain ⟨i0, hi0, hz0, hz1, hz2⟩ := info_parts intsInfo'
  obtain ⟨j0, hj0, hy0, hy1, hy2⟩ := info_parts Go.Proofs.Ytldeckiflghpcaa.intInfo
  go_enter Try.func30, Try.ntmps30
  go_wp2_with fail
  refine (l1New_any a len cap w hr).mono ?_
  rintro e w1 ⟨rfl, cu1, be1, sz1⟩
  go_wp2_with fail
  refine (l1Below_any w.heap.size w.heap.size a len cap 5 _ (by omega) be1.size cu1).mono ?_
  rintro e w2 ⟨n, rfl, ⟨n0, n1⟩, cu2, gr2⟩
  obtain ⟨m, rfl⟩ := Int.eq_ofNat_of_zero_le n0
  have hm : m ≤ 4 := by omega
  have be2 := be1.trans (below_of_grown gr2 (Nat.le_refl _) be1.size)
  have zb2 := gr2.size
  obtain ⟨base, hbase⟩ : ∃ base, base = w.heap.size + 1 := ⟨_, rfl⟩
  have lb2 : base ≤ w2.heap.size := by omega
  clear n0 n1 gr2 cu1 be1
  have HB := Lib.hid hbase
  clear hbase
  go_wp2_with fail
  go_loopw [6, 7, 9] (fun vp vb i wr => ∃ (k : Nat) (cs : List Value) (xss : List (List Int)) (bs : List Int), k ≤ m ∧ i = .int .i64 k ∧ cs.length = k ∧ bs.length = k ∧ PathD wr base vp vb cs xss bs ∧ (∀ x ∈ bs, Sm x) ∧ Cur w.heap.size wr w.heap.size a len cap ∧ Below w.heap.size w wr ∧ base ≤ wr.heap.size) (fun _ _ i _ => m - (intOf i).toNat)
  case atStart => exact ⟨0, [], [], [], Nat.zero_le _, rfl, rfl, rfl, PathD.nil _ _, (fun x hx => by simp at hx), cu2, be2, lb2⟩
  case round =>
    obtain ⟨k, cs, xss, bs, hk, rfl, hcl, hbl, P, hsm, cu, be, lb⟩ := hrel
    have HSM := Lib.hid hsm
    clear hsm
    have HC := Lib.hid hcl
    have HL := Lib.hid hbl
    have zr := be.size
    clear cu2 be2 hcl hbl
    have cb : w.heap.size < base := by rw [HB.out]; omega
    by_cases hlt : k < m
    · go_wp2_with fail
      refine (l5four_any w.heap.size w.heap.size a len cap wr be.size cu).mono ?_
      rintro e w3 ⟨u, xs, rfl, N3, hs, hl, cu3, gr3⟩
      have be3 := be.trans (below_of_grown gr3 (Nat.le_refl _) be.size)
      have P3 := P.cur gr3 cb
      obtain ⟨q, k1, k2, N3⟩ := N3.at_block (by omega)
      have z3 := gr3.size
      have f1 : ∀ (v : Value), (∀ b, v.ownBlock = some b → b < wr.heap.size) → some q ≠ v.ownBlock := fun v h e => by have := h q e.symm; omega
      have f2 := f1 _ (fun b e => (P.p.lt b e).2)
      have f3 := f1 _ (fun b e => (P.b.lt b e).2)
      clear f1 P cu gr3 be
      have lb3 : base ≤ w3.heap.size := by omega
      obtain ⟨au, ku, rfl, -, -⟩ := N3.shape
      go_wp2_with (at_builtin; refine name_list ?_)
      intro W hW
      have g4 : w3.grownBy W (some w.heap.size) := by rw [hW]; exact grownBy.alloc (grownBy.refl _ _) _
      have z4 : w3.heap.size + 1 = W.heap.size := by rw [hW]; simp
      have P4 := P3.cur g4 cb
      have N4 : Nums false q (q + 1) W (.slice au xs.length ku) xs := N3.same1 (g4.block q (by omega) (by simp; omega))
      have cu4 : Cur w.heap.size W w.heap.size a len cap := by rw [hW]; exact cu3.keep ((Below.refl w.heap.size w3).alloc be3.size _) (Below.heap_alloc _ _ _ (by omega))
      have be4 : Below w.heap.size w W := by rw [hW]; exact be3.alloc be3.size _
      have c4 : ∀ j v, [Value.slice au xs.length ku][j]? = some v → W.cell? ((⟨w3.heap.size, 0, none⟩ : Addr).add j) = some v := by
        intro j v hj
        rw [Go.WideShapes.add_plain]
        match j, hj with
        | 0, hj => simp at hj; subst hj; rw [hW]; first | (simp; done) | go_simp
      have HW := Lib.hid z4
      have z4' : w3.heap.size + 1 ≤ W.heap.size := by omega
      clear z4 hW P3 N3 cu3 g4 be3
      obtain ⟨ap, kp, rfl⟩ := own_slice P4.p
      have lt4 := fun b e => (P4.p.lt b e).1
      have G4 := Lib.hid (fun (w' : World) (h : W.grownBy w' (Value.slice ap cs.length kp).ownBlock) => below_grown h be4.size (fun b e => by have := lt4 b e; omega))
      have K4 := Lib.hid (fun (w' : World) (h : W.grownBy w' (Value.slice ap cs.length kp).ownBlock) => cu4.own (B := w.heap.size) (base := base) (by omega) cb (by omega) P4.p h)
      clear lt4
      have hcs : cs.length ≤ 4 := by rw [HC.out]; omega
      rw [← HC.out] at hlt ⊢
      go_wp2_with (at_builtin; refine wpList_append_spread _ rfl _ _ 31 rfl base 24 i0 (.slice none 0 0) 1 24 Try.underlying31 hi0 hz0 hz1 hz2 rfl (by decide) (.slice ap cs.length kp) cs.length cs rfl P4.p (some ⟨w3.heap.size, 0, none⟩) 1 1 [.slice au xs.length ku] rfl rfl (fun h => by cases h) (fun ad e => by cases e; exact c4) (by simp [Value.oneCell']) (by unfold maxLen; omega) (by omega) (by omega) ?_; rintro vp' w5 ⟨own5, grow5, ob5⟩)
      have P5 := P4.pushP (by omega) (by omega) (by omega) f2 f3 N4 hl own5 grow5 ob5
      have cu5 := K4.out _ grow5
      have be5 := be4.trans (G4.out _ grow5)
      have z5 := grow5.size
      have hc5 : w.heap.size < w5.heap.size := by omega
      clear P4 N4 own5 ob5 G4 K4 cu4 be4 c4 f2 f3 grow5
      have el := Elems.pick (w := w5) (t := 3) (l := [0, 1, 0, 1, 0, 1, 2]) _ rfl (by
        intro v hv
        simp only [List.mem_cons, List.not_mem_nil, or_false] at hv
        unfold Sm; rcases hv with rfl | rfl | rfl | rfl | rfl | rfl | rfl <;> omega)
      have cu6 := cu5.keep ((Below.refl w.heap.size w5).alloc be5.size (.cells #[.int .i64 0, .int .i64 1, .int .i64 0, .int .i64 1, .int .i64 0, .int .i64 1, .int .i64 2] 3)) (Below.heap_alloc _ _ _ hc5)
      have g6 : w5.grownBy (w5.alloc (.cells #[.int .i64 0, .int .i64 1, .int .i64 0, .int .i64 1, .int .i64 0, .int .i64 1, .int .i64 2] 3)) (some w.heap.size) := grownBy.alloc (grownBy.refl _ _) _
      have P6 := P5.cur g6 cb
      have be6 : Below w.heap.size w (w5.alloc (.cells #[.int .i64 0, .int .i64 1, .int .i64 0, .int .i64 1, .int .i64 0, .int .i64 1, .int .i64 2] 3)) := be5.alloc be5.size _
      refine (l1PickInt_any w.heap.size w.heap.size a len cap w5.heap.size 0 7 7 Sm _ (by omega) (by omega) (by omega) (by simp) (by simp; omega) cu6 el).mono ?_
      rintro e w7 ⟨y, rfl, hy, cu7, gr7⟩
      have P7 := P6.cur gr7 cb
      have be7 := be6.trans (below_of_grown gr7 (Nat.le_refl _) be6.size)
      have z7 := gr7.size
      simp at z7
      have hc7 : w.heap.size < w7.heap.size := by omega
      clear P5 P6 cu5 cu6 el g6 gr7 be5 be6
      go_wp2_with (at_builtin; refine name_list ?_)
      intro W8 hW8
      have g8 : w7.grownBy W8 (some w.heap.size) := by rw [hW8]; exact grownBy.alloc (grownBy.refl _ _) _
      have z8 : w7.heap.size + 1 ≤ W8.heap.size := by rw [hW8]; simp
      have P8 := P7.cur g8 cb
      have cu8 : Cur w.heap.size W8 w.heap.size a len cap := by rw [hW8]; exact cu7.keep ((Below.refl w.heap.size w7).alloc be7.size _) (Below.heap_alloc _ _ _ hc7)
      have be8 : Below w.heap.size w W8 := by rw [hW8]; exact be7.alloc be7.size _
      have c8 : ∀ j v, [Value.int .i64 y][j]? = some v → W8.cell? ((⟨w7.heap.size, 0, none⟩ : Addr).add j) = some v := by
        intro j v hj
        rw [Go.WideShapes.add_plain]
        match j, hj with
        | 0, hj => simp at hj; subst hj; rw [hW8]; first | (simp; done) | go_simp
      clear hW8 P7 cu7 g8 be7
      obtain ⟨ab, kb, rfl⟩ := own_slice P8.b
      have lt8 := fun b e => (P8.b.lt b e).1
      have G8 := Lib.hid (fun (w' : World) (h : W8.grownBy w' (Value.slice ab bs.length kb).ownBlock) => below_grown h be8.size (fun b e => by have := lt8 b e; omega))
      have K8 := Lib.hid (fun (w' : World) (h : W8.grownBy w' (Value.slice ab bs.length kb).ownBlock) => cu8.own (B := w.heap.size) (base := base) (by omega) cb (by omega) P8.b h)
      clear lt8
      have hbs : bs.length ≤ 4 := by rw [HL.out]; omega
      go_wp2_with (at_builtin; refine wpList_append_spread _ rfl _ _ 24 rfl base 3 j0 (.int .i64 0) 1 8 Try.underlying24 hj0 hy0 hy1 hy2 rfl (by decide) (.slice ab bs.length kb) bs.length (iv bs) rfl P8.b (some ⟨w7.heap.size, 0, none⟩) 1 1 [.int .i64 y] rfl rfl (fun h => by cases h) (fun ad e => by cases e; exact c8) (by simp [Value.oneCell']) (by unfold maxLen; omega) (by omega) (by omega) ?_; rintro vb' w9 ⟨own9, grow9, ob9⟩)
      have P9 := P8.pushB (x := y) (by rw [iv_append]; exact own9) grow9 ob9
      have cu9 := K8.out _ grow9
      have be9 := be8.trans (G8.out _ grow9)
      have z9 := grow9.size
      clear P8 own9 ob9 G8 K8 cu8 be8 c8 grow9
      go_wp2_with fail
      go_roundw
      case rel => exact ⟨cs.length + 1, cs ++ [.slice au xs.length ku], xss ++ [xs], bs ++ [y], by omega, by go_num, by simp, by simp; rw [HL.out, HC.out], P9, (by intro x hx; rcases List.mem_append.1 hx with h | h; exact HSM.out x h; simp at h; subst h; exact hy), cu9, be9, by omega⟩
      case measure => have := HC.out; simp [intOf]; omega
    · obtain rfl : k = m := by omega
      go_wp2_with fail
      refine (l5four_any w.heap.size w.heap.size a len cap wr be.size cu).mono ?_
      rintro e w3 ⟨u, xs, rfl, N3, hs, hl, cu3, gr3⟩
      have be3 := be.trans (below_of_grown gr3 (Nat.le_refl _) be.size)
      have P3 := P.cur gr3 cb
      have R := P3.rows
      have Q := P3.four
      have hx : xss.length ≤ 4 := by rw [← P3.len, HC.out]; omega
      have hbs : bs.length ≤ 4 := by rw [HL.out]; omega
      have B := (Nums.own (ts := bs) P3.b (fun x hx => (HSM.out x hx).fits)).ints
      clear P P3 cu cu3 gr3 be
      go_wp2_with fail
      exact bodyPost_ret (v := .tuple #[u, _, _]) (by simp [results, Try.results30, go_sem]) rfl ⟨u, _, _, xs, xss, bs, rfl, N3.ints, R, B, hl, hx, hbs, Q, be3⟩
end Go.Proofs.Ytldeckiflghpcaa.L
