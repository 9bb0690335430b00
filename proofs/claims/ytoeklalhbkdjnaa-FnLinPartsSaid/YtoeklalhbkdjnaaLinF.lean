/- FnLinParts: a drawn combination and its negation come to nothing; each factor is told. -/
import Derived.Test.YtoeklalhbkdjnaaLinE
import Derived.Test.YtoeklalhbkdjnaaLinP
import Derived.Test.YtoeklalhbkdjnaaVars
import Derived.Deep.RegionHeld3
namespace Go.Proofs.Ytoeklalhbkdjnaa.L
open Go.RowKit Go.Shelf Go.Proofs.Ytoeklalhbkdjnaa.S
set_option linter.unusedVariables false
set_option linter.unusedSimpArgs false

set_option maxRecDepth 100000 in
set_option maxHeartbeats 3200000 in
theorem law_FnLinParts (a : Option Addr) (len cap : Nat) (w : World) (hr : Row w.heap.size w a len) :
    Calls Try.prog 4 #[.slice a len cap] w fun e w' => e = .returned (.bool true) ∧ Below w.heap.size w w' := by
  go_enter Try.func4, Try.ntmps4
  go_wp2_with fail
  refine (drawCoeff_any a len cap w hr).mono ?_
  rintro e w1 ⟨u, ts, v, rfl, t1, hl, v0, v1, be1⟩
  have z1 := be1.size
  obtain ⟨au, ku, rfl, lu, bu⟩ := t1.shape
  go_wp2_with fail
  refine name_call fun w2 hw2 => ?_
  have f2 : Below w1.heap.size w1 w2 := by rw [hw2]; (repeat (with_reducible first | exact bR _ _ | assumption | refine bD ?_ | refine bN ?_ _ | refine bA ?_ _ | refine bS ?_ _))
  have z2 : w1.heap.size + 1 ≤ w2.heap.size := by rw [hw2]; simp
  have ca2 : w2.cell? ⟨w1.heap.size, 0, none⟩ = some (.slice au ts.length ku) := by rw [hw2]; first | (simp; done) | go_simp
  have t2 := t1.keep f2 (Nat.le_refl _)
  have be2 := be1.trans (f2.mono z1)
  clear hw2 t1 f2
  refine (linNeg_impl _ _ _ _ ts w2 t2 (by omega)).mono ?_
  rw [lok_nil]
  rintro e w3 ⟨un, rfl, f3, n3⟩
  obtain ⟨an, kn, rfl, ln, bn⟩ := n3.shape
  have z3 := f3.size
  have ca3 := ck f3 ca2
  have t3 := t2.keep f3 (by omega)
  have be3 := be2.trans (f3.mono (by omega))
  clear ca2 t2 f3
  have q3 : w1.heap.size < w3.heap.size := by omega
  go_wp2_with fail
  refine name_call fun w4 hw4 => ?_
  have f4 : Below w3.heap.size w3 w4 := by rw [hw4]; (repeat (with_reducible first | exact bR _ _ | assumption | refine bD ?_ | refine bN ?_ _ | refine bA ?_ _ | refine bS ?_ _))
  have z4 : w3.heap.size + 1 ≤ w4.heap.size := by rw [hw4]; simp
  have cn4 : w4.cell? ⟨w3.heap.size, 0, none⟩ = some (.slice an (lcomb 2147483646 [] ts).length kn) := by rw [hw4]; first | (simp; done) | go_simp
  have ca4 := ck f4 ca3
  have t4 := t3.keep f4 (by omega)
  have n4 := n3.keep f4 (Nat.le_refl _)
  have be4 := be3.trans (f4.mono (by omega))
  clear hw4 ca3 t3 n3 f4
  refine (vars_impl _ _ _ _ ts w4 t4 (by omega)).mono ?_
  rintro e w5 ⟨ul, rfl, f5, l5⟩
  obtain ⟨al, kl, rfl, ll, bl⟩ := l5.shape
  have z5 := f5.size
  have ca5 := ck f5 ca4
  have cn5 := ck f5 cn4
  have t5 := t4.keep f5 (by omega)
  have n5 := n4.keep f5 (by omega)
  have be5 := be4.trans (f5.mono (by omega))
  clear ca4 cn4 t4 n4 f5
  go_wp2_with fail
  refine (coeff_impl _ _ _ _ ts v w5 t5 (by omega)).mono ?_
  rintro e w6 ⟨rfl, f6⟩
  have z6 := f6.size
  have ca6 := ck f6 ca5
  have cn6 := ck f6 cn5
  have t6 := t5.keep f6 (by omega)
  have n6 := n5.keep f6 (by omega)
  have l6 := l5.keep f6 (Nat.le_refl _)
  have be6 := be5.trans (f6.mono (by omega))
  clear ca5 cn5 t5 n5 l5 f6
  go_wp2_with fail
  refine (linOk_spec _ _ _ _ ts w6 t6 (by omega)).mono ?_
  rintro e w7 ⟨rfl, f7⟩
  have z7 := f7.size
  have ca7 := ck f7 ca6
  have cn7 := ck f7 cn6
  have t7 := t6.keep f7 (by omega)
  have n7 := n6.keep f7 (by omega)
  have l7 := l6.keep f7 (by omega)
  have be7 := be6.trans (f7.mono (by omega))
  clear ca6 cn6 t6 n6 l6 f7
  cases hk : linOk ts with
  | false =>
    have e1 : varsOf ts = [] := by unfold varsOf; rw [hk]; rfl
    have e2 : coeff ts v = -1 := by unfold coeff; rw [hk]; rfl
    rw [e1, e2]
    clear hk e1 e2 ca7 cn7 t7 n7 l7
    go_wp2_with fail
    refine (lins_any w7).mono ?_
    rintro e w8 ⟨rfl, f8⟩
    go_wp2_with fail
    go_ret
    exact ⟨rfl, be7.trans (f8.mono (by omega))⟩
  | true =>
    have e1 : varsOf ts = ts.map (·.1) := by unfold varsOf; rw [hk]; rfl
    have e2 : coeff ts v = coeffOf v ts := by unfold coeff; rw [hk]; rfl
    have HK := Lib.hid hk
    have HC := Lib.hid (neg_cancel hk)
    obtain ⟨L, hL⟩ : ∃ L, L = ts.map (·.1) := ⟨_, rfl⟩
    rw [e1, ← hL] at l7 ll ⊢
    rw [e2]
    have HL := Lib.hid (show L.length = ts.length by rw [hL]; simp)
    have HX := Lib.hid (show ∀ (k : Nat) (t : T), ts[k]? = some t → L[k]? = some t.1 by intro k t h; rw [hL, List.getElem?_map, h]; rfl)
    clear hL
    have HF := Lib.hid (fnd_end (v := v) hk)
    clear e1 e2 hk
    go_wp2_with fail
    have hadd := linAdd_impl _ _ _ _ ts _ _ _ _ (lcomb 2147483646 [] ts) w7 t7 (by omega) n7 (by omega)
    rw [HC.out.1, HC.out.2] at hadd
    refine hadd.mono ?_
    rintro e w8 ⟨uz, rfl, f8, y8⟩
    obtain ⟨az, kz, rfl, lz, bz⟩ := y8.shape
    have z8 := f8.size
    have ca8 := ck f8 ca7
    have t8 := t7.keep f8 (by omega)
    have l8 := l7.keep f8 (by omega)
    have be8 := be7.trans (f8.mono (by omega))
    clear hadd ca7 cn7 t7 n7 l7 f8 y8
    have q8 : w1.heap.size < w8.heap.size := by omega
    go_wp2_with fail
    refine name_wp fun w9 hw9 => ?_
    have f9 : Below w8.heap.size w8 w9 := by rw [hw9]; (repeat (with_reducible first | exact bR _ _ | assumption | refine bD ?_ | refine bN ?_ _ | refine bA ?_ _ | refine bS ?_ _))
    have z9 : w8.heap.size + 1 ≤ w9.heap.size := by rw [hw9]; simp
    have cz9 : w9.cell? ⟨w8.heap.size, 0, none⟩ = some (.slice az 0 kz) := by rw [hw9]; first | (simp; done) | go_simp
    have ca9 := ck f9 ca8
    have t9 := t8.keep f9 (by omega)
    have l9 := l8.keep f9 (by omega)
    have be9 := be8.trans (f9.mono (by omega))
    clear hw9 ca8 t8 l8 f9
    go_loopw [11, 12] (fun q i wr => ∃ k : Nat, k ≤ ts.length ∧ i = .int .i64 k ∧ q = .bool (fnd ts v k) ∧ Below w9.heap.size w9 wr) (fun _ i _ => ts.length - (intOf i).toNat)
    case atStart => exact ⟨0, Nat.zero_le _, rfl, rfl, Below.refl _ _⟩
    case round =>
      obtain ⟨k, hk9, rfl, rfl, be⟩ := hrel
      have zr := be.size
      have car := ck be ca9
      have czr := ck be cz9
      have tr := t9.keep be (by omega)
      have lr := l9.keep be (by omega)
      have q9 : w1.heap.size < wr.heap.size := by omega
      have beW := be9.trans (be.mono (by omega))
      clear ca9 cz9 t9 l9
      by_cases hlt : k < ts.length
      · have hlt2 : k < L.length := by rw [HL.out]; exact hlt
        obtain ⟨b1, o1, x, y, rfl, -, -, d0, d1, et, -, -⟩ := tr.at hlt
        obtain ⟨b2, o2, x', rfl, d2, ex, -⟩ := lr.at hlt2
        have hx : x' = x := by
          have := HX.out k _ et
          rw [ex] at this
          simpa using this
        subst hx
        have HS := Lib.hid (fnd_step (v := v) et)
        have hcf : coeff ts x' = y := by unfold coeff; rw [if_pos HK.out]; exact coeffOf_at (show okFrom (-1) ts = true from HK.out) et
        have hco := coeff_impl true w.heap.size w1.heap.size (.slice (some ⟨b1, o1, none⟩) ts.length ku) ts x' wr.drew (tr.keep ((Below.refl wr.heap.size wr).drew) (by omega)) (by show w1.heap.size ≤ wr.heap.size; omega)
        rw [hcf] at hco
        have HCO := Lib.hid hco
        clear hco hcf ex et tr lr
        have hne : (y != y) = false := by simp
        cases hf : fnd ts v k with
        | true =>
          have HS2 := Lib.hid (show fnd ts v (k + 1) = true by rw [HS.out, hf]; rfl)
          clear hf HS
          go_wp2_with fail
          have dd : Below wr.heap.size wr wr.drew := (Below.refl _ _).drew
          have zd : wr.heap.size ≤ wr.drew.heap.size := Nat.le_refl _
          have E0 : wr.drew.cell? ⟨w1.heap.size, 0, none⟩ = some (.slice (some ⟨b1, o1, none⟩) ts.length ku) := ck dd car
          have E1 : wr.drew.cell? ⟨b2, o2 + k, none⟩ = some (.int .i64 x') := ck dd d2
          have E2 : wr.drew.cell? ⟨b1, o1 + k * 2 + 1, none⟩ = some (.int .i64 y) := ck dd d1
          go_region_held3 (fun w' => w'.cell? ⟨w1.heap.size, 0, none⟩ = some (.slice (some ⟨b1, o1, none⟩) ts.length ku) ∧ w'.cell? ⟨b2, o2 + k, none⟩ = some (.int .i64 x') ∧ w'.cell? ⟨b1, o1 + k * 2 + 1, none⟩ = some (.int .i64 y)) (first | exact ⟨E0, E1, E2⟩ | exact ⟨ck j1 E0, ck j1 E1, ck j1 E2⟩)
            (first | (go_at_call 20; (with_reducible refine HCO.out.mono ?_); rintro e w10 ⟨rfl, j1⟩))
          go_wp2_with fail
          go_roundw
          case rel => exact ⟨k + 1, by omega, by go_num, by rw [HS2.out], be.trans ((dd.trans j1).mono (by omega))⟩
          case measure => simp [intOf]; omega
        | false =>
          have HS2 := Lib.hid (show fnd ts v (k + 1) = (x' == v) by rw [HS.out, hf]; rfl)
          clear hf HS
          go_wp2_with fail
          have dd : Below wr.heap.size wr wr.drew := (Below.refl _ _).drew
          have zd : wr.heap.size ≤ wr.drew.heap.size := Nat.le_refl _
          have E0 : wr.drew.cell? ⟨w1.heap.size, 0, none⟩ = some (.slice (some ⟨b1, o1, none⟩) ts.length ku) := ck dd car
          have E1 : wr.drew.cell? ⟨b2, o2 + k, none⟩ = some (.int .i64 x') := ck dd d2
          have E2 : wr.drew.cell? ⟨b1, o1 + k * 2 + 1, none⟩ = some (.int .i64 y) := ck dd d1
          go_region_held3 (fun w' => w'.cell? ⟨w1.heap.size, 0, none⟩ = some (.slice (some ⟨b1, o1, none⟩) ts.length ku) ∧ w'.cell? ⟨b2, o2 + k, none⟩ = some (.int .i64 x') ∧ w'.cell? ⟨b1, o1 + k * 2 + 1, none⟩ = some (.int .i64 y)) (first | exact ⟨E0, E1, E2⟩ | exact ⟨ck j1 E0, ck j1 E1, ck j1 E2⟩)
            (first | (go_at_call 20; (with_reducible refine HCO.out.mono ?_); rintro e w10 ⟨rfl, j1⟩))
          go_wp2_with fail
          go_roundw
          case rel => exact ⟨k + 1, by omega, by go_num, by rw [HS2.out], be.trans ((dd.trans j1).mono (by omega))⟩
          case measure => simp [intOf]; omega
      · obtain rfl : k = ts.length := by omega
        have HG := Lib.hid (HF.out)
        have hlen : ((L.length : Int) == (ts.length : Int)) = true := by rw [HL.out]; simp
        have hnl : ¬ ts.length < L.length := by rw [HL.out]; omega
        have q10 : w8.heap.size < wr.heap.size := by omega
        obtain ⟨q, hq⟩ : ∃ q, q = fnd ts v ts.length := ⟨_, rfl⟩
        rw [← hq]
        have hqq : (q == (coeffOf v ts != 0)) = true := by rw [hq]; exact HF.out
        clear hq HF HG
        go_wp2_with fail
        refine (lins_any wr).mono ?_
        rintro e w11 ⟨rfl, f11⟩
        go_wp2_with fail
        go_ret
        exact ⟨rfl, beW.trans (f11.mono (by omega))⟩
end Go.Proofs.Ytoeklalhbkdjnaa.L
