/- FnValues: the value of a sum is the sum of the values, of a multiple the multiple, of a constant the constant. -/
import Derived.Test.YtoeklalhbkdjnaaLinG
import Derived.Test.YtoeklalhbkdjnaaLinH
import Derived.Test.YtoeklalhbkdjnaaLinV
import Derived.Deep.RegionHeld3
namespace Go.Proofs.Ytoeklalhbkdjnaa.L
open Go.RowKit Go.Shelf Go.Proofs.Ytoeklalhbkdjnaa.S
set_option linter.unusedVariables false
set_option linter.unusedSimpArgs false

theorem val_bd (ts : List T) (xs : List Int) : 0 ≤ val ts xs ∧ val ts xs < 2147483647 := by
  unfold val; split
  · exact lval_bd _ _
  · omega
/-- What is known of the three derived values where both are told. -/
theorem val_laws {as' bs : List T} {xs : List Int} (k : Int) (ha : valOk as' xs = true) (hb : valOk bs xs = true) :
    lok as' bs = true ∧ lok [] as' = true ∧ valOk (lcomb 1 as' bs) xs = true ∧ valOk (lcomb (k % 2147483647) [] as') xs = true ∧ valOk (constOf k) xs = true ∧
    val (lcomb 1 as' bs) xs = (val as' xs + val bs xs) % 2147483647 ∧ val (lcomb (k % 2147483647) [] as') xs = val as' xs * k % 2147483647 ∧ val (constOf k) xs = k % 2147483647 := by
  have h1 := val_mrg 1 ha hb
  have hn := valOk_nil ha
  have h2 := val_mrg (k % 2147483647) hn.1 ha
  have h3 := val_const k ha
  refine ⟨h1.2.1, h2.2.1, h1.1, h2.1, h3.1, ?_, ?_, h3.2⟩
  · rw [h1.2.2, Int.one_mul]
  · rw [h2.2.2, hn.2, Int.zero_add]
    have := emod_dvd k (val as' xs)
    rw [Int.mul_comm k (val as' xs)] at this
    omega

set_option maxRecDepth 100000 in
set_option maxHeartbeats 3200000 in
theorem law_FnValues (a : Option Addr) (len cap : Nat) (w : World) (hr : Row w.heap.size w a len) (hlen : len ≤ 140737488351232) :
    Calls Try.prog 3 #[.slice a len cap] w fun e w' => e = .returned (.bool true) ∧ Below w.heap.size w w' := by
  go_enter Try.func3, Try.ntmps3
  go_wp2_with fail
  refine (drawValue_any a len cap w hr).mono ?_
  rintro e w1 ⟨u, ts, v, xs, rfl, t1, hl, i1, be1⟩
  obtain ⟨au, ku, rfl, lu, bu⟩ := t1.shape
  have z1 := be1.size
  go_wp2_with fail
  refine name_call fun w2 hw2 => ?_
  have f2 : Below w1.heap.size w1 w2 := by rw [hw2]; (repeat (with_reducible first | exact bR _ _ | assumption | refine bD ?_ | refine bN ?_ _ | refine bA ?_ _ | refine bS ?_ _))
  have z2 : w1.heap.size + 1 ≤ w2.heap.size := by rw [hw2]; simp
  have ca2 : w2.cell? ⟨w1.heap.size, 0, none⟩ = some (.slice au ts.length ku) := by rw [hw2]; first | (simp; done) | go_simp
  have t2 := t1.keep f2 (Nat.le_refl _)
  have i2 := Ints.keep i1 f2 (Nat.le_refl _)
  have be2 := be1.trans (f2.mono z1)
  clear hw2 t1 i1 f2 be1
  refine (more_any a len cap w2 (row_wide (hr.keep be2) (by omega)) hlen).mono ?_
  rintro e w3 ⟨a', n', cap', rfl, hr3, f3⟩
  have z3 := f3.size
  have ca3 := ck f3 ca2
  have t3 := t2.keep f3 (by omega)
  have i3 := Ints.keep i2 f3 (by omega)
  have be3 := be2.trans (f3.mono (by omega))
  clear ca2 t2 i2 f3 be2
  go_wp2_with fail
  refine (drawValue_any a' n' cap' w3 hr3).mono ?_
  rintro e w4 ⟨ub, bs, vb, xb, rfl, s4, hlb, ib4, f4⟩
  obtain ⟨ab, kb, rfl, lb, bb⟩ := s4.shape
  have z4 := f4.size
  have ca4 := ck f4 ca3
  have t4 := t3.keep f4 (by omega)
  have i4 := Ints.keep i3 f4 (by omega)
  have be4 := be3.trans (f4.mono (by omega))
  clear ca3 t3 i3 f4 be3 hr3 ib4
  have q4 : w1.heap.size < w4.heap.size := by omega
  go_wp2_with fail
  refine name_call fun w5 hw5 => ?_
  have f5 : Below w4.heap.size w4 w5 := by rw [hw5]; (repeat (with_reducible first | exact bR _ _ | assumption | refine bD ?_ | refine bN ?_ _ | refine bA ?_ _ | refine bS ?_ _))
  have z5 : w4.heap.size + 1 ≤ w5.heap.size := by rw [hw5]; simp
  have cb5 : w5.cell? ⟨w4.heap.size, 0, none⟩ = some (.slice ab bs.length kb) := by rw [hw5]; first | (simp; done) | go_simp
  have ca5 := ck f5 ca4
  have t5 := t4.keep f5 (by omega)
  have s5 := s4.keep f5 (Nat.le_refl _)
  have i5 := Ints.keep i4 f5 (by omega)
  have be5 := be4.trans (f5.mono (by omega))
  clear hw5 ca4 t4 s4 i4 f5 be4
  refine (value_impl _ _ _ _ ts _ _ xs w5 t5 (by omega) i5 (by omega)).mono ?_
  rintro e w6 ⟨rfl, f6⟩
  have z6 := f6.size
  have ca6 := ck f6 ca5
  have cb6 := ck f6 cb5
  have t6 := t5.keep f6 (by omega)
  have s6 := s5.keep f6 (by omega)
  have i6 := Ints.keep i5 f6 (by omega)
  have be6 := be5.trans (f6.mono (by omega))
  clear ca5 cb5 t5 s5 i5 f6 be5
  go_wp2_with fail
  refine (value_impl _ _ _ _ bs _ _ xs w6 s6 (by omega) i6 (by omega)).mono ?_
  rintro e w7 ⟨rfl, f7⟩
  have z7 := f7.size
  have ca7 := ck f7 ca6
  have cb7 := ck f7 cb6
  have t7 := t6.keep f7 (by omega)
  have s7 := s6.keep f7 (by omega)
  have i7 := Ints.keep i6 f7 (by omega)
  have be7 := be6.trans (f7.mono (by omega))
  clear ca6 cb6 t6 s6 i6 f7 be6
  cases hA : valOk ts xs with
  | false =>
    rw [val_no hA]
    obtain ⟨ob, hob⟩ : ∃ ob, ob = valOk bs xs := ⟨_, rfl⟩
    have hvb : ob = true ∨ (ob = false ∧ val bs xs = 0) := by
      rw [hob]
      cases h : valOk bs xs
      · exact .inr ⟨rfl, val_no h⟩
      · exact .inl rfl
    rw [← hob]
    obtain ⟨vb', hvb'⟩ : ∃ x, x = val bs xs := ⟨_, rfl⟩
    rw [← hvb'] at hvb ⊢
    clear hob hvb' hA
    rcases hvb with rfl | ⟨rfl, rfl⟩
    · go_wp2_with fail
      refine (lins_any w7).mono ?_
      rintro e w8 ⟨rfl, f8⟩
      go_wp2_with fail
      go_ret
      exact ⟨rfl, be7.trans (f8.mono (by omega))⟩
    · go_wp2_with fail
      refine (lins_any w7).mono ?_
      rintro e w8 ⟨rfl, f8⟩
      go_wp2_with fail
      go_ret
      exact ⟨rfl, be7.trans (f8.mono (by omega))⟩
  | true =>
    cases hB : valOk bs xs with
    | false =>
      rw [val_no hB]
      obtain ⟨va', hva'⟩ : ∃ x, x = val ts xs := ⟨_, rfl⟩
      rw [← hva']
      clear hva' hA hB
      go_wp2_with fail
      refine (lins_any w7).mono ?_
      rintro e w8 ⟨rfl, f8⟩
      go_wp2_with fail
      go_ret
      exact ⟨rfl, be7.trans (f8.mono (by omega))⟩
    | true =>
      have LAWS := Lib.hid (fun k => val_laws (xs := xs) k hA hB)
      have BA := val_bd ts xs
      have BB := val_bd bs xs
      obtain ⟨x, hx⟩ : ∃ x, x = val ts xs := ⟨_, rfl⟩
      obtain ⟨y, hy⟩ : ∃ y, y = val bs xs := ⟨_, rfl⟩
      rw [← hx] at BA ⊢
      rw [← hy] at BB ⊢
      have HX := Lib.hid hx
      have HY := Lib.hid hy
      clear hx hy hA hB
      have q7 : w1.heap.size < w7.heap.size := by omega
      have p7 : w4.heap.size < w7.heap.size := by omega
      go_wp2_with fail
      refine (linAdd_impl _ _ _ _ ts _ _ _ _ bs w7 t7 (by omega) s7 (by omega)).mono ?_
      rw [(LAWS.out 0).1]
      rintro e w8 ⟨us, rfl, f8, p8⟩
      obtain ⟨as8, ks, rfl, ls8, bs8⟩ := p8.shape
      have z8 := f8.size
      have ca8 := ck f8 ca7
      have t8 := t7.keep f8 (by omega)
      have i8 := Ints.keep i7 f8 (by omega)
      have be8 := be7.trans (f8.mono (by omega))
      clear ca7 cb7 t7 s7 i7 f8 be7
      go_wp2_with fail
      refine name_call fun w9 hw9 => ?_
      have f9 : Below w8.heap.size w8 w9 := by rw [hw9]; (repeat (with_reducible first | exact bR _ _ | assumption | refine bD ?_ | refine bN ?_ _ | refine bA ?_ _ | refine bS ?_ _))
      have z9 : w8.heap.size + 1 ≤ w9.heap.size := by rw [hw9]; simp
      have cs9 : w9.cell? ⟨w8.heap.size, 0, none⟩ = some (.slice as8 (lcomb 1 ts bs).length ks) := by rw [hw9]; first | (simp; done) | go_simp
      have ca9 := ck f9 ca8
      have t9 := t8.keep f9 (by omega)
      have p9 := p8.keep f9 (Nat.le_refl _)
      have i9 := Ints.keep i8 f9 (by omega)
      have be9 := be8.trans (f9.mono (by omega))
      clear hw9 ca8 t8 p8 i8 f9 be8
      refine (at_any a len cap w9 (row_wide (hr.keep be9) (by omega))).mono ?_
      rintro e w10 ⟨m, rfl, m0, m1, f10⟩
      have z10 := f10.size
      have ca10 := ck f10 ca9
      have cs10 := ck f10 cs9
      have t10 := t9.keep f10 (by omega)
      have p10 := p9.keep f10 (by omega)
      have i10 := Ints.keep i9 f10 (by omega)
      have be10 := be9.trans (f10.mono (by omega))
      clear ca9 cs9 t9 p9 i9 f10 be9
      have LK := Lib.hid (LAWS.out (m * 1000 - 99))
      have q10 : w1.heap.size < w10.heap.size := by omega
      have p10' : w8.heap.size < w10.heap.size := by omega
      go_wp2_with fail
      refine (linTimes_impl _ _ _ _ ts (m * 1000 - 99) w10 t10 (by omega) (by omega) (by omega)).mono ?_
      rw [LK.out.2.1]
      rintro e w11 ⟨um, rfl, f11, m11⟩
      obtain ⟨am, km, rfl, lm, bm⟩ := m11.shape
      have z11 := f11.size
      have cs11 := ck f11 cs10
      have p11 := p10.keep f11 (by omega)
      have i11 := Ints.keep i10 f11 (by omega)
      have be11 := be10.trans (f11.mono (by omega))
      clear ca10 cs10 t10 p10 i10 f11 be10
      have p11' : w8.heap.size < w11.heap.size := by omega
      go_wp2_with fail
      refine name_call fun w12 hw12 => ?_
      have f12 : Below w11.heap.size w11 w12 := by rw [hw12]; (repeat (with_reducible first | exact bR _ _ | assumption | refine bD ?_ | refine bN ?_ _ | refine bA ?_ _ | refine bS ?_ _))
      have z12 : w11.heap.size + 1 ≤ w12.heap.size := by rw [hw12]; simp
      have cm12 : w12.cell? ⟨w11.heap.size, 0, none⟩ = some (.slice am (lcomb ((m * 1000 - 99) % 2147483647) [] ts).length km) := by rw [hw12]; first | (simp; done) | go_simp
      have p12 := p11.keep f12 (by omega)
      have m12 := m11.keep f12 (Nat.le_refl _)
      have i12 := Ints.keep i11 f12 (by omega)
      have be12 := be11.trans (f12.mono (by omega))
      clear hw12 cs11 p11 m11 i11 f12 be11
      refine (value_impl _ _ _ _ (lcomb 1 ts bs) _ _ xs w12 p12 (by omega) i12 (by omega)).mono ?_
      rw [LK.out.2.2.1, LK.out.2.2.2.2.2.1]
      rintro e w13 ⟨rfl, f13⟩
      have z13 := f13.size
      have cm13 := ck f13 cm12
      have m13 := m12.keep f13 (by omega)
      have i13 := Ints.keep i12 f13 (by omega)
      have be13 := be12.trans (f13.mono (by omega))
      clear cm12 m12 i12 f13 be12 p12
      have p13' : w11.heap.size < w13.heap.size := by omega
      go_wp2_with fail
      refine (value_impl _ _ _ _ (lcomb ((m * 1000 - 99) % 2147483647) [] ts) _ _ xs w13 m13 (by omega) i13 (by omega)).mono ?_
      rw [LK.out.2.2.2.1, LK.out.2.2.2.2.2.2.1]
      rintro e w14 ⟨rfl, f14⟩
      have z14 := f14.size
      have i14 := Ints.keep i13 f14 (by omega)
      have be14 := be13.trans (f14.mono (by omega))
      clear cm13 m13 i13 f14 be13
      go_wp2_with fail
      refine (const_impl (m * 1000 - 99) w14 (by omega) (by omega)).mono ?_
      rintro e w15 ⟨uc, rfl, f15, c15⟩
      obtain ⟨ac, kc, rfl, lc, bc⟩ := c15.shape
      have z15 := f15.size
      have i15 := Ints.keep i14 f15 (by omega)
      have be15 := be14.trans (f15.mono (by omega))
      clear i14 f15 be14
      go_wp2_with fail
      refine (value_impl _ _ _ _ (constOf (m * 1000 - 99)) _ _ xs w15 c15 (by omega) i15 (by omega)).mono ?_
      rw [LK.out.2.2.2.2.1, LK.out.2.2.2.2.2.2.2]
      rintro e w16 ⟨rfl, f16⟩
      have z16 := f16.size
      have be16 := be15.trans (f16.mono (by omega))
      clear i15 c15 f16 be15
      rw [← HX.out, ← HY.out]
      clear HX HY LAWS LK
      go_wp2_with fail
      refine (fadd_impl x y w16 (by omega) (by omega) (by omega) (by omega)).mono ?_
      rintro e w17 ⟨rfl, rfl⟩
      go_wp2_with fail
      refine (fmul_impl x (m * 1000 - 99) w16 (by omega) (by omega) (by omega) (by omega)).mono ?_
      rintro e w17 ⟨rfl, rfl⟩
      go_wp2_with fail
      refine (fof_impl (m * 1000 - 99) w16 (by omega) (by omega)).mono ?_
      rintro e w17 ⟨rfl, rfl⟩
      go_wp2_with fail
      refine (lins_any w16).mono ?_
      rintro e w17 ⟨rfl, f17⟩
      go_wp2_with fail
      go_ret
      exact ⟨rfl, be16.trans (f17.mono (by omega))⟩
end Go.Proofs.Ytoeklalhbkdjnaa.L
