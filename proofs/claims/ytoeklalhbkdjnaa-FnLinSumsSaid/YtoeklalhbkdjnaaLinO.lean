/- FnLinSums: a sum of drawn combinations is, in each place, the sum of theirs; one more of nothing changes nothing. -/
import Derived.Test.YtoeklalhbkdjnaaLinM
import Derived.Test.YtoeklalhbkdjnaaLinN
import Derived.Test.YtoeklalhbkdjnaaVars
import Derived.Test.YtoeklalhbkdjnaaB3
import Derived.Deep.RegionHeld3
namespace Go.Proofs.Ytoeklalhbkdjnaa.L
open Go.RowKit Go.Shelf Go.Proofs.Ytoeklalhbkdjnaa.S
set_option linter.unusedVariables false
set_option linter.unusedSimpArgs false

theorem Terms.lax {o : Bool} {l h : Nat} {w : World} {v : Value} {ts : List T} (t : Terms o l h w v ts) : Terms false 0 h w v ts := by
  obtain ⟨a, cap, rfl, h1, h2, h3, h4⟩ := t
  refine ⟨a, cap, rfl, h1, h2, h3, ?_⟩
  rcases h4 with h4 | ⟨b, off, e, hl, hlt, hf, hc⟩
  · exact .inl h4
  · exact .inr ⟨b, off, e, Nat.zero_le _, hlt, (fun q => by cases q), hc⟩
theorem lins_row {g cap : Nat} {us : List Value} {zs : List (List T)} {w : World} (hl : us.length = zs.length) (hn : zs.length ≤ cap) (hcap : cap ≤ 9223372036854775807) (hg : g < w.heap.size)
    (hc : ∀ (j : Nat) (u : Value), us[j]? = some u → w.cell? ⟨g, j, none⟩ = some u) (ht : ∀ (j : Nat) (u : Value) (t : List T), us[j]? = some u → zs[j]? = some t → Terms false 0 w.heap.size w u t) :
    LinS false 0 w.heap.size w (.slice (some ⟨g, 0, none⟩) zs.length cap) zs := by
  refine ⟨some ⟨g, 0, none⟩, cap, rfl, hn, hcap, .inr ⟨g, 0, rfl, Nat.zero_le _, hg, (fun h => by cases h), fun j => [us[j]?.getD (.int .i64 0)], fun _ => 0, fun _ => w.heap.size, (fun h => by cases h), fun j t hj => ?_⟩⟩
  have hjl : j < us.length := by rw [hl]; exact (List.getElem?_eq_some_iff.1 hj).1
  have hcj : us[j]? = some us[j] := List.getElem?_eq_getElem hjl
  dsimp only
  rw [hcj]
  refine ⟨Nat.le_refl _, Nat.le_refl _, fun f x hf => ?_, us[j], rfl, ht j _ t hcj hj⟩
  match f, hf with
  | 0, hf =>
    simp at hf; subst hf
    rw [show 0 + j * Shape.lin.wd + 0 = j from by show 0 + j * 1 + 0 = j; omega]
    exact hc j _ hcj
  | f + 1, hf => simp at hf
theorem row_zero (w : World) (t : TypeId) : (w.alloc (.cells #[] t)).ownsRow w.heap.size t 1 (.slice (some ⟨w.heap.size, 0, none⟩) 0 0) 0 [] := World.ownsRow_made (base := w.heap.size) (size := 1) (e := t) w #[] 0 (Nat.le_refl _) (Nat.zero_le _) rfl
theorem cells_one_new (w : World) (x : Value) (t : TypeId) : ∀ ad, (some ⟨w.heap.size, 0, none⟩ : Option Addr) = some ad → ∀ j u, [x][j]? = some u → (w.alloc (.cells #[x] t)).cell? (ad.add j) = some u := by
  intro ad e j u hj
  cases e
  rw [Go.WideShapes.add_plain]
  match j, hj with
  | 0, hj => simp at hj; subst hj; simp
  | j + 1, hj => simp at hj
/-- A row of a few combinations. -/
structure Row3 (g : Nat) (us : List Value) (xs : List (List T)) (w : World) : Prop where
  l : us.length = xs.length
  n : xs.length ≤ 3
  lt : g < w.heap.size
  c : ∀ (j : Nat) (u : Value), us[j]? = some u → w.cell? ⟨g, j, none⟩ = some u
  o : ∀ u ∈ us, u.oneCell' = true
  t : ∀ (j : Nat) (u : Value) (t : List T), us[j]? = some u → xs[j]? = some t → Terms false 0 w.heap.size w u t
theorem Row3.keep {g : Nat} {us : List Value} {xs : List (List T)} {w w' : World} (h : Row3 g us xs w) (b : Below w.heap.size w w') : Row3 g us xs w' :=
  ⟨h.l, h.n, Nat.lt_of_lt_of_le h.lt b.size, fun j u e => ck b (h.c j u e), h.o, fun j u t e1 e2 => ((h.t j u t e1 e2).keep b (Nat.le_refl _)).mono (Nat.le_refl _) b.size⟩
theorem Row3.lins {g : Nat} {us : List Value} {xs : List (List T)} {w : World} (h : Row3 g us xs w) : LinS false 0 w.heap.size w (.slice (some ⟨g, 0, none⟩) xs.length 3) xs :=
  lins_row h.l h.n (by omega) h.lt h.c h.t
theorem Row3.more {g base g' cap : Nat} {us : List Value} {xs : List (List T)} {w w' : World} (h : Row3 g us xs w) (b : Below w.heap.size w w')
    (own : w'.ownsRow base 25 1 (.slice (some ⟨g', 0, none⟩) (xs.length + 1) cap) (xs.length + 1) (us ++ [.slice none 0 0])) : LinS false 0 w'.heap.size w' (.slice (some ⟨g', 0, none⟩) (xs ++ [[]]).length cap) (xs ++ [[]]) := by
  have h' := h.keep b
  have hcap : xs.length + 1 ≤ cap ∧ cap ≤ maxLen := by
    rcases own.2 with ⟨e, _⟩ | ⟨g2, cap2, cur, e, _, _, hnc, hcm, _⟩
    · simp at e
    · simp only [Value.slice.injEq] at e
      obtain ⟨-, -, rfl⟩ := e
      exact ⟨hnc, hcm⟩
  refine lins_row (us := us ++ [.slice none 0 0]) (by simp [h.l]) (by simpa using hcap.1) (by have := hcap.2; unfold maxLen at this; omega) (own.lt g' rfl).2 (fun j u hj => ?_) (fun j u t h1 h2 => ?_)
  · have hj2 := (List.getElem?_eq_some_iff.1 hj).1
    rw [own.cellAt j (by simp [h.l] at hj2; omega)]
    exact hj
  · by_cases hj : j < xs.length
    · rw [List.getElem?_append_left (by rw [h.l]; exact hj)] at h1
      rw [List.getElem?_append_left hj] at h2
      exact h'.t j u t h1 h2
    · have hj2 := (List.getElem?_eq_some_iff.1 h2).1
      have hj3 : j = xs.length := by simp at hj2; omega
      subst hj3
      rw [List.getElem?_append_right (by rw [h.l]; exact Nat.le_refl _), h.l, Nat.sub_self] at h1
      rw [List.getElem?_append_right (Nat.le_refl _), Nat.sub_self] at h2
      simp at h1 h2
      subst h1; subst h2
      exact Terms.nil _ _ _ _
theorem drawnS_row {w w' : World} {e : Ending} (h : DrawnS w e w') : ∃ g us xs, e = .returned (.slice (some ⟨g, 0, none⟩) (List.length (α := List T) xs) 3) ∧ Row3 g us xs w' ∧ Below w.heap.size w w' := by
  obtain ⟨g, n, ua, ub, ts, tb, rfl, hn, c0, c1, c2, t1, t2, be⟩ := h
  have hl : ([ts, tb, ts].take n).length = n := by simp; omega
  have hl2 : ([ua, ub, ua].take n).length = n := by simp; omega
  refine ⟨g, [ua, ub, ua].take n, [ts, tb, ts].take n, by rw [hl], ⟨by rw [hl, hl2], by omega, World.block_lt_of_cell? _ _ c0, fun j u hj => ?_, fun u hu => ?_, fun j u t h1 h2 => ?_⟩, be⟩
  · have hj' : [ua, ub, ua][j]? = some u := by
      rw [List.getElem?_take] at hj
      split at hj
      · exact hj
      · cases hj
    match j, hj' with
    | 0, q => simp at q; subst q; exact c0
    | 1, q => simp at q; subst q; exact c1
    | 2, q => simp at q; subst q; exact c2
    | j + 3, q => simp at q
  · have hu' := List.mem_of_mem_take hu
    obtain ⟨a1, k1, rfl, -, -⟩ := t1.shape
    obtain ⟨a2, k2, rfl, -, -⟩ := t2.shape
    simp at hu'
    rcases hu' with rfl | rfl | rfl <;> rfl
  · have h1' : [ua, ub, ua][j]? = some u := by
      rw [List.getElem?_take] at h1
      split at h1
      · exact h1
      · cases h1
    have h2' : [ts, tb, ts][j]? = some t := by
      rw [List.getElem?_take] at h2
      split at h2
      · exact h2
      · cases h2
    match j, h1', h2' with
    | 0, q, r => simp at q r; subst q; subst r; exact t1.lax
    | 1, q, r => simp at q r; subst q; subst r; exact t2.lax
    | 2, q, r => simp at q r; subst q; subst r; exact t1.lax
    | j + 3, q, r => simp at q

set_option maxRecDepth 100000 in
set_option maxHeartbeats 6400000 in
theorem law_FnLinSums (a : Option Addr) (len cap : Nat) (w : World) (hr : Row w.heap.size w a len) :
    Calls Try.prog 5 #[.slice a len cap] w fun e w' => e = .returned (.bool true) ∧ Below w.heap.size w w' := by
  obtain ⟨i0, hi0, hz0, hz1, hz2⟩ := info_parts linInfo
  go_enter Try.func5, Try.ntmps5
  go_wp2_with fail
  refine (drawLinSum_any a len cap w hr).mono ?_
  intro e w1 hdr
  obtain ⟨g, us, xs, rfl, R1, be1⟩ := drawnS_row hdr
  clear hdr
  have z1 := be1.size
  have hn := R1.n
  go_wp2_with fail
  refine (linSum_impl false 0 w1.heap.size _ xs w1 R1.lins (Nat.le_refl _) (by omega)).mono ?_
  rintro e w2 ⟨u, rfl, f2, t2⟩
  have z2 := f2.size
  have R2 := R1.keep f2
  have be2 := be1.trans (f2.mono (by omega))
  clear R1 be1 f2
  cases hS : (sumL xs).2 with
  | false =>
    rw [sumL_no hS] at t2
    obtain ⟨au, ku, rfl, lu, bu⟩ := t2.shape
    clear R2 t2
    go_wp2_with fail
    refine name_call fun w3 hw3 => ?_
    have f3 : Below w2.heap.size w2 w3 := by rw [hw3]; (repeat (with_reducible first | exact bR _ _ | assumption | refine bD ?_ | refine bN ?_ _ | refine bA ?_ _ | refine bS ?_ _))
    clear hw3
    refine (lins_any w3).mono ?_
    rintro e w4 ⟨rfl, f4⟩
    go_wp2_with fail
    go_ret
    exact ⟨rfl, (be2.trans (f3.mono (by omega))).trans (f4.mono (by have := f3.size; omega))⟩
  | true =>
    obtain ⟨F1, F2, F3, F4⟩ := sumL_facts (by omega) hS
    obtain ⟨r, hr0⟩ : ∃ r, r = (sumL xs).1 := ⟨_, rfl⟩
    rw [← hr0] at t2 F1 F3
    have HF2 := Lib.hid F2
    have HF3 := Lib.hid F3
    have H4 : sumL (xs ++ [[]]) = (r, true) := by rw [F4, hr0, ← hS]
    have HF4 := Lib.hid H4
    have HF1 := Lib.hid F1
    clear F1 F2 F3 F4 H4 hr0 hS
    obtain ⟨au, ku, rfl, lu, bu⟩ := t2.shape
    go_wp2_with fail
    refine name_call fun w3 hw3 => ?_
    have f3 : Below w2.heap.size w2 w3 := by rw [hw3]; (repeat (with_reducible first | exact bR _ _ | assumption | refine bD ?_ | refine bN ?_ _ | refine bA ?_ _ | refine bS ?_ _))
    have z3 : w2.heap.size + 1 ≤ w3.heap.size := by rw [hw3]; simp
    have ca3 : w3.cell? ⟨w2.heap.size, 0, none⟩ = some (.slice au r.length ku) := by rw [hw3]; first | (simp; done) | go_simp
    have t3 := t2.keep f3 (Nat.le_refl _)
    have R3 := R2.keep f3
    have be3 := be2.trans (f3.mono (by omega))
    clear hw3 t2 R2 f3 be2
    refine (vars_impl _ _ _ _ r w3 t3 (by omega)).mono ?_
    rintro e w4 ⟨ul, rfl, f4, l4⟩
    have hvl := varsOf_len r
    obtain ⟨L, hL⟩ : ∃ L, L = varsOf r := ⟨_, rfl⟩
    rw [← hL] at l4 hvl
    clear hL
    obtain ⟨al, kl, rfl, ll, bl⟩ := l4.shape
    have z4 := f4.size
    have ca4 := ck f4 ca3
    have t4 := t3.keep f4 (by omega)
    have R4 := R3.keep f4
    have be4 := be3.trans (f4.mono (by omega))
    clear ca3 t3 R3 f4 be3
    go_wp2_with fail
    go_loopw [7] (fun i wr => ∃ k : Nat, k ≤ L.length ∧ i = .int .i64 k ∧ Below w4.heap.size w4 wr) (fun i _ => L.length - (intOf i).toNat)
    case atStart => exact ⟨0, Nat.zero_le _, rfl, Below.refl _ _⟩
    case round =>
      obtain ⟨k, hk, rfl, be⟩ := hrel
      obtain ⟨wo, hwo⟩ : ∃ x, x = wr := ⟨_, rfl⟩
      subst hwo
      have zr := be.size
      by_cases hlt : k < L.length
      · obtain ⟨bv, ov, vv, rfl, cv, -, fv⟩ := (l4.keep be (Nat.le_refl _)).at hlt
        have car := ck be ca4
        have tr := t4.keep be (by omega)
        have Rr := R4.keep be
        go_wp2_with fail
        go_loopw [8, 9] (fun kv j ws => ∃ m : Nat, m ≤ xs.length ∧ j = .int .i64 m ∧ kv = .int .i64 (kfold vv 0 (xs.take m)) ∧ Below wo.heap.size wo ws) (fun _ j _ => xs.length - (intOf j).toNat)
        case atStart => exact ⟨0, Nat.zero_le _, rfl, rfl, Below.refl _ _⟩
        case round =>
          obtain ⟨m, hm, rfl, rfl, bs⟩ := hrel
          have zs := bs.size
          have kb := kfold_bd vv (xs.take m)
          by_cases hmx : m < xs.length
          · have Rs := Rr.keep bs
            have hmu : m < us.length := by rw [Rs.l]; exact hmx
            have hcm := Rs.c m _ (List.getElem?_eq_getElem hmu)
            have tm' := Rs.t m _ _ (List.getElem?_eq_getElem hmu) (List.getElem?_eq_getElem hmx)
            have cvs := ck bs cv
            obtain ⟨ux, hux⟩ : ∃ ux, ux = us[m] := ⟨_, rfl⟩
            rw [← hux] at hcm tm'
            obtain ⟨ax, kx, rfl, lx, bx⟩ := tm'.shape
            have hco := coeff_impl false 0 wr.heap.size _ xs[m] vv wr.drew (tm'.agree (fun _ _ _ => rfl)) (Nat.le_refl _)
            have hcf : coeff xs[m] vv = coeffOf vv xs[m] := by unfold coeff; rw [if_pos (HF2.out _ (List.getElem_mem hmx))]
            rw [hcf] at hco
            have cb2 := coeffOf_bd (v := vv) (show okFrom (-1) xs[m] = true from HF2.out _ (List.getElem_mem hmx))
            have HST := Lib.hid (kfold_step (v := vv) hmx)
            obtain ⟨q, hq⟩ : ∃ q, q = kfold vv 0 (xs.take m) := ⟨_, rfl⟩
            obtain ⟨cc, hcc⟩ : ∃ cc, cc = coeffOf vv xs[m] := ⟨_, rfl⟩
            rw [← hq] at kb ⊢
            rw [← hcc] at hco cb2
            have HCO := Lib.hid hco
            have HQ := Lib.hid hq
            have HCC := Lib.hid hcc
            have E0 : wr.drew.cell? ⟨g, m, none⟩ = some (.slice ax xs[m].length kx) := hcm
            have E1 : wr.drew.cell? ⟨bv, ov + k, none⟩ = some (.int .i64 vv) := cvs
            have bd : Below wr.heap.size wr wr.drew := (Below.refl _ _).drew
            have yd : wr.drew.heap.size = wr.heap.size := rfl
            clear hco hq hcc hcf hux hcm tm' cvs Rs car tr Rr cv
            go_wp2_with fail
            go_region_held3 (fun w' => w'.cell? ⟨g, m, none⟩ = some (.slice ax xs[m].length kx) ∧ w'.cell? ⟨bv, ov + k, none⟩ = some (.int .i64 vv)) (first | exact ⟨E0, E1⟩ | exact ⟨ck j1 E0, ck j1 E1⟩)
              (first | (go_at_call 20; (with_reducible refine HCO.out.mono ?_); rintro e w10 ⟨rfl, j1⟩) | (go_at_call 14; (with_reducible refine (fadd_impl q cc _ (by omega) (by omega) (by omega) (by omega)).mono ?_); rintro e w11 ⟨rfl, rfl⟩))
            go_wp2_with fail
            go_roundw
            case rel => exact ⟨m + 1, by omega, by go_num, by rw [HST.out, ← HQ.out, ← HCC.out], bs.trans ((bd.trans j1).mono (by omega))⟩
            case measure => simp [intOf]; omega
          · obtain rfl : m = xs.length := by omega
            rw [List.take_length] at kb ⊢
            obtain ⟨q, hq⟩ : ∃ q, q = kfold vv 0 xs := ⟨_, rfl⟩
            rw [← hq] at kb ⊢
            have tx := tr.keep bs (by omega)
            have hco := coeff_impl true w1.heap.size w2.heap.size _ r vv wr.drew (tx.agree (fun _ _ _ => rfl)) (by show w2.heap.size ≤ wr.heap.size; omega)
            have hcf : coeff r vv = q := by unfold coeff; rw [if_pos HF1.out, HF3.out vv, hq]
            rw [hcf] at hco
            have HCO := Lib.hid hco
            have D0 := ck bs car
            have D1 := ck bs cv
            have E0 : wr.drew.cell? ⟨w2.heap.size, 0, none⟩ = some (.slice au r.length ku) := D0
            have E1 : wr.drew.cell? ⟨bv, ov + k, none⟩ = some (.int .i64 vv) := D1
            clear D0 D1
            have bd : Below wr.heap.size wr wr.drew := (Below.refl _ _).drew
            have yd : wr.drew.heap.size = wr.heap.size := rfl
            have hne : (q != q) = false := by simp
            clear hco hcf hq tx car tr Rr cv
            go_wp2_with fail
            go_region_held3 (fun w' => w'.cell? ⟨w2.heap.size, 0, none⟩ = some (.slice au r.length ku) ∧ w'.cell? ⟨bv, ov + k, none⟩ = some (.int .i64 vv)) (first | exact ⟨E0, E1⟩ | exact ⟨ck j1 E0, ck j1 E1⟩)
              (first | (go_at_call 20; (with_reducible refine HCO.out.mono ?_); rintro e w10 ⟨rfl, j1⟩))
            go_wp2_with fail
            go_roundw
            case rel => exact ⟨k + 1, by omega, by go_num, (be.trans (bs.mono (by omega))).trans ((bd.trans j1).mono (by omega))⟩
            case measure => simp [intOf]; omega
      · obtain rfl : k = L.length := by omega
        have car := ck be ca4
        have tr := t4.keep be (by omega)
        have Rr := R4.keep be
        have ber := be4.trans (be.mono (by omega))
        clear l4 ca4 t4 R4 be be4
        go_wp2_with (at_builtin; refine name_list ?_)
        intro W hW
        have f0 : Below wo.heap.size wo W := by rw [hW]; (repeat (with_reducible first | exact bR _ _ | assumption | refine bD ?_ | refine bN ?_ _ | refine bA ?_ _ | refine bS ?_ _))
        have y0 : wo.heap.size + 1 ≤ W.heap.size := by rw [hW]; simp
        have row0 : W.ownsRow wo.heap.size 25 1 (.slice (some ⟨wo.heap.size, 0, none⟩) 0 0) 0 [] := by rw [hW]; exact row_zero _ _
        have RW := Rr.keep f0
        clear hW
        have hul : us.length = xs.length * 1 := by rw [RW.l, Nat.mul_one]
        have CC := Lib.hid (show ∀ ad, (some ⟨g, 0, none⟩ : Option Addr) = some ad → ∀ j u, us[j]? = some u → W.cell? (ad.add j) = some u from fun ad e j u hj => by cases e; rw [Go.WideShapes.add_plain, Nat.zero_add]; exact RW.c j u hj)
        have HO := Lib.hid RW.o
        go_wp2_with (first | (at_builtin; refine wpList_append_spread _ rfl _ _ 49 rfl wo.heap.size 25 i0 (.agg #[.slice none 0 0]) 1 24 Try.underlying49 hi0 hz0 hz1 hz2 rfl (by decide) (.slice (some ⟨wo.heap.size, 0, none⟩) 0 0) _ [] rfl row0 _ _ _ us rfl hul (fun h => by cases h) CC.out HO.out (by unfold maxLen; omega) (by omega) (by omega) ?_; rintro v5 w5 ⟨hown5, hgrow5, -⟩; rw [List.nil_append, Nat.zero_add] at hown5; obtain ⟨a5, c5, rfl⟩ := own_slice hown5; have e5 : Below wo.heap.size W w5 := below_grown hgrow5 (by omega) (fun k e => (by simp [Value.ownBlock] at e; omega)); have z5 : wo.heap.size ≤ w5.heap.size := Nat.le_trans (by omega) hgrow5.size; have OWN5 := hown5.alloc (.cells #[.slice none 0 0] 25); have hk := fun k e => (hown5.lt k e).1; have gr := Lib.hid (fun (w' : World) (h : (w5.alloc (.cells #[.slice none 0 0] 25)).grownBy w' (Value.slice a5 xs.length c5).ownBlock) => below_grown (B := wo.heap.size) h (by simp; omega) hk); clear row0 hown5 hk) | (at_builtin; refine wpList_append_spread _ rfl _ _ 49 rfl wo.heap.size 25 i0 (.agg #[.slice none 0 0]) 1 24 Try.underlying49 hi0 hz0 hz1 hz2 rfl (by decide) (.slice a5 xs.length c5) _ us rfl OWN5 (some ⟨w5.heap.size, 0, none⟩) 1 1 [.slice none 0 0] rfl rfl (fun h => by cases h) (cells_one_new _ _ _) (by simp [Value.oneCell']) (by unfold maxLen; omega) (by omega) (by simp; omega) ?_; rintro v6 w6 ⟨hown6, hgrow6, -⟩; obtain ⟨g6, c6, rfl⟩ := ownsRow_succ hown6))
        have B6 : Below wo.heap.size wo w6 := f0.trans (e5.trans (((Below.refl wo.heap.size w5).alloc z5 _).trans (gr.out _ hgrow6)))
        have z6 := B6.size
        have LS := Rr.more B6 hown6
        have ca6 := ck B6 car
        have t6 := tr.keep B6 (by omega)
        have be6 := ber.trans (B6.mono (by omega))
        have hlen : (xs ++ [[]]).length = xs.length + 1 := by simp
        rw [hlen] at LS
        clear hown6 hgrow6 gr OWN5 e5 f0 RW Rr car tr ber B6 CC HO
        have hsum := linSum_impl false 0 w6.heap.size _ (xs ++ [[]]) w6 LS (Nat.le_refl _) (by omega)
        rw [HF4.out] at hsum
        refine hsum.mono ?_
        rintro e w7 ⟨u7, rfl, f7, t7⟩
        simp only at t7
        obtain ⟨a7, k7, rfl, l7, b7⟩ := t7.shape
        have z7 := f7.size
        have ca7 := ck f7 ca6
        have t7x := t6.keep f7 (by omega)
        have be7 := be6.trans (f7.mono (by omega))
        clear ca6 t6 be6 f7 hsum LS
        have q7 : w2.heap.size < w7.heap.size := by omega
        go_wp2_with fail
        refine name_call fun w8 hw8 => ?_
        have f8 : Below w7.heap.size w7 w8 := by rw [hw8]; (repeat (with_reducible first | exact bR _ _ | assumption | refine bD ?_ | refine bN ?_ _ | refine bA ?_ _ | refine bS ?_ _))
        have z8 : w7.heap.size + 1 ≤ w8.heap.size := by rw [hw8]; simp
        have cb8 : w8.cell? ⟨w7.heap.size, 0, none⟩ = some (.slice a7 r.length k7) := by rw [hw8]; first | (simp; done) | go_simp
        have ca8 := ck f8 ca7
        have t8 := t7x.keep f8 (by omega)
        have s8 := t7.keep f8 (Nat.le_refl _)
        have be8 := be7.trans (f8.mono (by omega))
        clear hw8 ca7 t7x t7 f8 be7
        refine (sameLin_any _ _ _ _ _ _ _ _ r w8 t8 (by omega) s8 (by omega)).mono ?_
        rintro e w9 ⟨rfl, f9⟩
        have z9 := f9.size
        have ca9 := ck f9 ca8
        have t9 := t8.keep f9 (by omega)
        have be9 := be8.trans (f9.mono (by omega))
        clear ca8 t8 s8 f9 be8 cb8
        go_wp2_with fail
        refine (linOk_impl_yes _ _ _ _ r w9 t9 (by omega) HF1.out).mono ?_
        rintro e w10 ⟨rfl, f10⟩
        have z10 := f10.size
        have be10 := be9.trans (f10.mono (by omega))
        clear ca9 t9 f10 be9
        go_wp2_with fail
        refine (lins_any w10).mono ?_
        rintro e w11 ⟨rfl, f11⟩
        go_wp2_with fail
        go_ret
        exact ⟨rfl, be10.trans (f11.mono (by omega))⟩
end Go.Proofs.Ytoeklalhbkdjnaa.L
