/- The draw of a few combinations; the same combination twice. -/
import Derived.Test.YtoeklalhbkdjnaaLinK
import Derived.Deep.RegionHeld3
namespace Go.Proofs.Ytoeklalhbkdjnaa.L
open Go.RowKit Go.Shelf Go.Proofs.Ytoeklalhbkdjnaa.S
set_option linter.unusedVariables false
set_option linter.unusedSimpArgs false

/-- A row of three, and its first n. -/
def S3 (lo : Nat) (A B : Value) (wx : World) (v : Value) : Prop :=
  ∃ g, v = .slice (some ⟨g, 0, none⟩) 3 3 ∧ lo ≤ g ∧ wx.cell? ⟨g, 0, none⟩ = some A ∧ wx.cell? ⟨g, 1, none⟩ = some B ∧ wx.cell? ⟨g, 2, none⟩ = some A
def SN (lo : Nat) (A B : Value) (wx : World) (v : Value) : Prop :=
  ∃ (g n : Nat), n ≤ 3 ∧ v = .slice (some ⟨g, 0, none⟩) n 3 ∧ lo ≤ g ∧ wx.cell? ⟨g, 0, none⟩ = some A ∧ wx.cell? ⟨g, 1, none⟩ = some B ∧ wx.cell? ⟨g, 2, none⟩ = some A
def CP (lo : Nat) (a : Option Addr) (len cap : Nat) (wx : World) (v : Value) : Prop := ∃ c, v = .pointer (some ⟨c, 0, none⟩) ∧ Cur lo wx c a len cap
theorem S3.keep {lo : Nat} {A B v : Value} {wx w' : World} (h : S3 lo A B wx v) (b : Below wx.heap.size wx w') : S3 lo A B w' v := by
  obtain ⟨g, e, h1, h2, h3, h4⟩ := h; exact ⟨g, e, h1, ck b h2, ck b h3, ck b h4⟩
theorem SN.keep {lo : Nat} {A B v : Value} {wx w' : World} (h : SN lo A B wx v) (b : Below wx.heap.size wx w') : SN lo A B w' v := by
  obtain ⟨g, n, hn, e, h1, h2, h3, h4⟩ := h; exact ⟨g, n, hn, e, h1, ck b h2, ck b h3, ck b h4⟩
theorem CP.keep {lo : Nat} {a : Option Addr} {len cap : Nat} {v : Value} {wx w' : World} (h : CP lo a len cap wx v) (hl : lo ≤ wx.heap.size) (b : Below wx.heap.size wx w') : CP lo a len cap w' v := by
  obtain ⟨c, e, h⟩ := h; exact ⟨c, e, cur_below h hl b⟩

/-- A few drawn combinations. -/
def DrawnS (w : World) (e : Ending) (w' : World) : Prop :=
  ∃ (g n : Nat) (ua ub : Value) (ts tb : List T), e = .returned (.slice (some ⟨g, 0, none⟩) n 3) ∧ n ≤ 3 ∧ w'.cell? ⟨g, 0, none⟩ = some ua ∧ w'.cell? ⟨g, 1, none⟩ = some ub ∧ w'.cell? ⟨g, 2, none⟩ = some ua ∧
    Terms true w.heap.size w'.heap.size w' ua ts ∧ Terms true w.heap.size w'.heap.size w' ub tb ∧ Below w.heap.size w w'

set_option maxRecDepth 100000 in
set_option maxHeartbeats 3200000 in
theorem drawLinSum_any (a : Option Addr) (len cap : Nat) (w : World) (hr : Row w.heap.size w a len) :
    Calls Try.prog 22 #[.slice a len cap] w (DrawnS w) := by
  go_enter Try.func22, Try.ntmps22
  go_wp2_with fail
  refine (drawLinAdd_any a len cap w hr).mono ?_
  rintro e w1 ⟨u, ub, ts, tb, rfl, t1, s1, hl, hlb, f1⟩
  obtain ⟨au, ku, rfl, lu, bu⟩ := t1.shape
  obtain ⟨ab, kb, rfl, lb, bb⟩ := s1.shape
  have z1 := f1.size
  go_wp2_with fail
  refine name_wp fun w2 hw2 => ?_
  have f2 : Below w1.heap.size w1 w2 := by rw [hw2]; (repeat (with_reducible first | exact bR _ _ | assumption | refine bD ?_ | refine bN ?_ _ | refine bA ?_ _ | refine bS ?_ _))
  have z2 : w1.heap.size + 2 ≤ w2.heap.size := by rw [hw2]; simp
  have ca : w2.cell? ⟨w1.heap.size, 0, none⟩ = some (.slice au ts.length ku) := by rw [hw2]; first | (simp; done) | go_simp
  have cb : w2.cell? ⟨w1.heap.size + 1, 0, none⟩ = some (.slice ab tb.length kb) := by rw [hw2]; first | (simp; done) | go_simp
  clear hw2
  have t2 := t1.keep f2 (Nat.le_refl _)
  have s2 := s1.keep f2 (Nat.le_refl _)
  have g2 := f1.trans (f2.mono z1)
  clear t1 s1 f1 f2
  have X0 : w2.drew.cell? ⟨w1.heap.size, 0, none⟩ = some (.slice au ts.length ku) := ca
  have X1 : w2.drew.cell? ⟨w1.heap.size + 1, 0, none⟩ = some (.slice ab tb.length kb) := cb
  have t3 : Terms true w.heap.size w1.heap.size w2.drew (.slice au ts.length ku) ts := t2.agree (fun _ _ _ => rfl)
  have s3 : Terms true w.heap.size w1.heap.size w2.drew (.slice ab tb.length kb) tb := s2.agree (fun _ _ _ => rfl)
  have g3 : Below w.heap.size w w2.drew := g2.drew
  have y3 : w2.drew.heap.size = w2.heap.size := rfl
  obtain ⟨X, hX⟩ : ∃ X, X = w2.drew := ⟨_, rfl⟩
  have hr3 : Row X.heap.size X a len := by rw [hX]; exact row_wide (hr.keep g3) (by omega)
  rw [← hX] at X0 X1 t3 s3 g3 y3
  clear ca cb t2 s2 g2
  refine wp_region_drawn [2, 10, 11, 12, 13, 14, 15, 16, 17] (fun d u wx => Below X.heap.size X wx ∧ X.heap.size ≤ wx.heap.size ∧ (d 0 = true → u 10 = .agg #[.slice au ts.length ku]) ∧ (d 1 = true → u 11 = .agg #[.slice ab tb.length kb]) ∧ (d 2 = true → u 12 = .agg #[.slice au ts.length ku]) ∧ (d 3 = true → S3 X.heap.size (.slice au ts.length ku) (.slice ab tb.length kb) wx (u 13)) ∧ (d 4 = true → u 14 = .slice a len cap) ∧ (d 5 = true → CP X.heap.size a len cap wx (u 15)) ∧ (d 6 = true → ∃ n : Nat, n ≤ 3 ∧ u 16 = .int .i64 n) ∧ (d 7 = true → d 6 = true ∧ SN X.heap.size (.slice au ts.length ku) (.slice ab tb.length kb) wx (u 17)) ∧ (d 8 = true → d 6 = true ∧ SN X.heap.size (.slice au ts.length ku) (.slice ab tb.length kb) wx (u 2)) ∧ (d 3 = true → d 5 = true → ∀ g c, u 13 = .slice (some ⟨g, 0, none⟩) 3 3 → u 15 = .pointer (some ⟨c, 0, none⟩) → g ≠ c)) (by kernel_rfl) (by kernel_rfl) (by kernel_rfl) ?_ ?_ ?_
  · intro u; rw [← hX]; exact ⟨Below.refl _ _, Nat.le_refl _, vac0 rfl, vac0 rfl, vac0 rfl, vac0 rfl, vac0 rfl, vac0 rfl, vac0 rfl, vac0 rfl, vac0 rfl, vac0 rfl⟩
  · refine ⟨?_, ?_, ?_, ?_, ?_, ?_, ?_, ?_, ?_, trivial⟩
    · intro d u wx hd0 hd hF
      obtain ⟨hb, hz, f0, f1, f2, f3, f4, f5, f6, f7, f8, fx⟩ := hF
      refine Wpv.env fun ρ hin hout hcon hfun => ?_
      have E3 : ρ (.tmp 3) = .pointer (some ⟨w1.heap.size, 0, none⟩) := (hout 3 (by kernel_rfl)).trans (by kernel_rfl)
      clear hin hout
      have c0 := cell_keep hb X0
      refine Wpv.value (v := .agg #[.slice au ts.length ku]) (w' := wx) ?_ ⟨hb, hz, fun _ => rfl, f1, f2, f3, f4, f5, f6, f7, f8, fx⟩
      clear f0 f1 f2 f3 f4 f5 f6 f7 f8 fx
      simp only [execOp]; rw [E3]; go_simp
    · intro d u wx hd0 hd hF
      obtain ⟨hb, hz, f0, f1, f2, f3, f4, f5, f6, f7, f8, fx⟩ := hF
      refine Wpv.env fun ρ hin hout hcon hfun => ?_
      have E4 : ρ (.tmp 4) = .pointer (some ⟨w1.heap.size + 1, 0, none⟩) := (hout 4 (by kernel_rfl)).trans (by kernel_rfl)
      clear hin hout
      have c0 := cell_keep hb X1
      refine Wpv.value (v := .agg #[.slice ab tb.length kb]) (w' := wx) ?_ ⟨hb, hz, f0, fun _ => rfl, f2, f3, f4, f5, f6, f7, f8, fx⟩
      clear f0 f1 f2 f3 f4 f5 f6 f7 f8 fx
      simp only [execOp]; rw [E4]; go_simp
    · intro d u wx hd0 hd hF
      obtain ⟨hb, hz, f0, f1, f2, f3, f4, f5, f6, f7, f8, fx⟩ := hF
      refine Wpv.env fun ρ hin hout hcon hfun => ?_
      have E3 : ρ (.tmp 3) = .pointer (some ⟨w1.heap.size, 0, none⟩) := (hout 3 (by kernel_rfl)).trans (by kernel_rfl)
      clear hin hout
      have c0 := cell_keep hb X0
      refine Wpv.value (v := .agg #[.slice au ts.length ku]) (w' := wx) ?_ ⟨hb, hz, f0, f1, fun _ => rfl, f3, f4, f5, f6, f7, f8, fx⟩
      clear f0 f1 f2 f3 f4 f5 f6 f7 f8 fx
      simp only [execOp]; rw [E3]; go_simp
    · intro d u wx hd0 hd hF
      obtain ⟨hb, hz, f0, f1, f2, f3, f4, f5, f6, f7, f8, fx⟩ := hF
      refine Wpv.env fun ρ hin hout hcon hfun => ?_
      have E10 := (hin 10 (by kernel_rfl)).trans (f0 (hd.get (j := 0) (by kernel_rfl)))
      have E11 := (hin 11 (by kernel_rfl)).trans (f1 (hd.get (j := 1) (by kernel_rfl)))
      have E12 := (hin 12 (by kernel_rfl)).trans (f2 (hd.get (j := 2) (by kernel_rfl)))
      clear hin hout
      have bl : Below wx.heap.size wx (wx.alloc (.cells #[.slice au ts.length ku, .slice ab tb.length kb, .slice au ts.length ku] 25)) := (Below.refl _ _).alloc (Nat.le_refl _) _
      refine Wpv.value (v := .slice (some ⟨wx.heap.size, 0, none⟩) 3 3) (w' := wx.alloc (.cells #[.slice au ts.length ku, .slice ab tb.length kb, .slice au ts.length ku] 25)) (by clear f0 f1 f2 f3 f4 f5 f6 f7 f8 fx; simp only [execOp, List.map_toArray, List.map_cons, List.map_nil, E10, E11, E12]; go_simp) ?_
      exact ⟨hb.alloc hz _, by simp; omega, f0, f1, f2, fun _ => ⟨wx.heap.size, rfl, hz, by first | (simp; done) | go_simp, by first | (simp; done) | go_simp, by first | (simp; done) | go_simp⟩, f4, fun q => (f5 q).keep hz bl, f6, fun q => ⟨(f7 q).1, (f7 q).2.keep bl⟩, fun q => ⟨(f8 q).1, (f8 q).2.keep bl⟩, (fun _ (q5 : d 5 = true) g c e1 e2 => by obtain ⟨c', e3, cu⟩ := f5 q5; have e4 : c' = c := (by rw [show u 15 = _ from e2] at e3; simpa using e3.symm); subst e4; have hc := World.block_lt_of_cell? wx ⟨c', 0, none⟩ cu.c0; have e5 : wx.heap.size = g := (by have e6 : Value.slice (some ⟨wx.heap.size, 0, none⟩) 3 3 = .slice (some ⟨g, 0, none⟩) 3 3 := e1; simpa using e6); simp only at hc; omega)⟩
    · intro d u wx hd0 hd hF
      obtain ⟨hb, hz, f0, f1, f2, f3, f4, f5, f6, f7, f8, fx⟩ := hF
      refine Wpv.env fun ρ hin hout hcon hfun => ?_
      have E0 : ρ (.tmp 0) = .slice a len cap := (hout 0 (by kernel_rfl)).trans (by kernel_rfl)
      clear hin hout
      refine Wpv.value (v := .slice a len cap) (w' := wx) ?_ ⟨hb, hz, f0, f1, f2, f3, fun _ => rfl, f5, f6, f7, f8, fx⟩
      clear f0 f1 f2 f3 f4 f5 f6 f7 f8 fx
      simp only [execOp]; rw [E0]; go_simp
    · intro d u wx hd0 hd hF
      obtain ⟨hb, hz, f0, f1, f2, f3, f4, f5, f6, f7, f8, fx⟩ := hF
      refine Wpv.env fun ρ hin hout hcon hfun => ?_
      have E14 := (hin 14 (by kernel_rfl)).trans (f4 (hd.get (j := 4) (by kernel_rfl)))
      clear hin hout
      skip
      refine Wpv.enter (f := 26) (args := #[.slice a len cap]) (w' := wx) (by clear f0 f1 f2 f3 f4 f5 f6 f7 f8 fx; go_simp) (l1New_any a len cap wx (row_wide (hr3.keep hb) hz)) ?_
      rintro e' w' ⟨rfl, cu', j1, sz'⟩
      have cu2 : Cur X.heap.size w' wx.heap.size a len cap := Cur.narrow cu' (hr3.keep (hb.trans (j1.mono hz))) hz
      exact ⟨_, rfl, ⟨hb.trans (j1.mono hz), Nat.le_trans hz j1.size, f0, f1, f2, fun q => (f3 q).keep j1, f4, fun _ => ⟨wx.heap.size, rfl, cu2⟩, f6, fun q => ⟨(f7 q).1, (f7 q).2.keep j1⟩, fun q => ⟨(f8 q).1, (f8 q).2.keep j1⟩, (fun (q3 : d 3 = true) _ g c e1 e2 => by obtain ⟨g', e3, _, k0, _⟩ := f3 q3; have e4 : g' = g := (by rw [show u 13 = _ from e1] at e3; simpa using e3.symm); subst e4; have hc := World.block_lt_of_cell? wx ⟨g', 0, none⟩ k0; have e5 : wx.heap.size = c := (by have e6 : Value.pointer (some ⟨wx.heap.size, 0, none⟩) = .pointer (some ⟨c, 0, none⟩) := e2; simpa using e6); simp only at hc; omega)⟩⟩
    · intro d u wx hd0 hd hF
      obtain ⟨hb, hz, f0, f1, f2, f3, f4, f5, f6, f7, f8, fx⟩ := hF
      refine Wpv.env fun ρ hin hout hcon hfun => ?_
      have e5 := f5 (hd.get (j := 5) (by kernel_rfl))
      have d5 := hd.get (j := 5) (by kernel_rfl)
      obtain ⟨c, ec, cu⟩ := id e5
      have E15 := (hin 15 (by kernel_rfl)).trans ec
      clear hin hout
      refine Wpv.enter (f := 29) (args := #[.pointer (some ⟨c, 0, none⟩), .int .i64 4]) (w' := wx) (by clear f0 f1 f2 f3 f4 f5 f6 f7 f8 fx e5; go_simp) (l1Below_any X.heap.size c a len cap 4 wx (by omega) hz cu) ?_
      rintro e' w' ⟨x, rfl, ⟨x0, x1⟩, cu', g'⟩
      obtain ⟨n, rfl⟩ := Int.eq_ofNat_of_zero_le x0
      have hn : n ≤ 3 := by omega
      have k3 : d 3 = true → S3 X.heap.size (.slice au ts.length ku) (.slice ab tb.length kb) w' (u 13) := fun q => by obtain ⟨g, e1, h1, h2, h3, h4⟩ := f3 q; have ne := fx q d5 g c e1 ec; exact ⟨g, e1, h1, gck g' h2 ne, gck g' h3 ne, gck g' h4 ne⟩
      exact ⟨_, rfl, ⟨hb.trans (below_of_grown g' cu.lo hz), Nat.le_trans hz g'.size, f0, f1, f2, k3, f4, fun _ => ⟨c, ec, cu'⟩, fun _ => ⟨n, hn, rfl⟩, (fun (q : d 7 = true) => absurd (f7 q).1 (by rw [hd0]; simp)), (fun (q : d 8 = true) => absurd (f8 q).1 (by rw [hd0]; simp)), fx⟩⟩
    · intro d u wx hd0 hd hF
      obtain ⟨hb, hz, f0, f1, f2, f3, f4, f5, f6, f7, f8, fx⟩ := hF
      refine Wpv.env fun ρ hin hout hcon hfun => ?_
      obtain ⟨g, e1, h1, h2, h3, h4⟩ := f3 (hd.get (j := 3) (by kernel_rfl))
      have d6 := hd.get (j := 6) (by kernel_rfl)
      obtain ⟨n, hn, en⟩ := f6 d6
      have E13 := (hin 13 (by kernel_rfl)).trans e1
      have E16 := (hin 16 (by kernel_rfl)).trans en
      clear hin hout
      refine Wpv.value (v := .slice (some ⟨g, 0, none⟩) n 3) (w' := wx) ?_ ⟨hb, hz, f0, f1, f2, f3, f4, f5, f6, fun _ => ⟨d6, g, n, hn, rfl, h1, h2, h3, h4⟩, f8, fx⟩
      clear f0 f1 f2 f3 f4 f5 f6 f7 f8 fx
      have hn2 : (n : Int) ≤ 3 := by omega
      simp only [execOp]; go_simp
    · intro d u wx hd0 hd hF
      obtain ⟨hb, hz, f0, f1, f2, f3, f4, f5, f6, f7, f8, fx⟩ := hF
      refine Wpv.env fun ρ hin hout hcon hfun => ?_
      have d7 := hd.get (j := 7) (by kernel_rfl)
      obtain ⟨d6, g, n, hn, e1, h1, h2, h3, h4⟩ := f7 d7
      have E17 := (hin 17 (by kernel_rfl)).trans e1
      clear hin hout
      refine Wpv.value (v := .slice (some ⟨g, 0, none⟩) n 3) (w' := wx) ?_ ⟨hb, hz, f0, f1, f2, f3, f4, f5, f6, f7, fun _ => ⟨d6, g, n, hn, rfl, h1, h2, h3, h4⟩, fx⟩
      clear f0 f1 f2 f3 f4 f5 f6 f7 f8 fx
      simp only [execOp]; go_simp
  · intro d u wc hall hF
    obtain ⟨hb, hz, f0, f1, f2, f3, f4, f5, f6, f7, f8, fx⟩ := hF
    obtain ⟨_, g, n, hn, e2, h1, h2, h3, h4⟩ := f8 (hall 8 (by decide))
    have T9 := Lib.hid (And.intro ((t3.keep hb (by omega)).mono (Nat.le_refl _) (show w1.heap.size ≤ wc.heap.size by omega)) (And.intro ((s3.keep hb (by omega)).mono (Nat.le_refl _) (show w1.heap.size ≤ wc.heap.size by omega)) (g3.trans (hb.mono (by omega)))))
    clear f0 f1 f2 f3 f4 f5 f6 f7 f8 fx hb hall
    simp only [setF, List.foldl_cons, List.foldl_nil, Act.put, List.setIfInBounds_toArray, List.set_cons_zero, List.set_cons_succ]
    rw [e2]
    go_wp2_with fail
    go_ret
    exact ⟨g, n, _, _, ts, tb, rfl, hn, h2, h3, h4, T9.out.1, T9.out.2.1, T9.out.2.2⟩

set_option maxRecDepth 100000 in
set_option maxHeartbeats 1600000 in
theorem sameLin_any (o1 l1 h1 va o2 l2 h2 vb) (ts : List T) (w : World) (t1 : Terms o1 l1 h1 w va ts) (hw1 : h1 ≤ w.heap.size) (t2 : Terms o2 l2 h2 w vb ts) (hw2 : h2 ≤ w.heap.size) :
    Calls Try.prog 24 #[.agg #[va], .agg #[vb]] w fun e w' => e = .returned (.bool true) ∧ Below w.heap.size w w' := by
  obtain ⟨aa, ka, rfl, la, ba⟩ := t1.shape
  obtain ⟨ab, kb, rfl, lb, bb⟩ := t2.shape
  go_enter Try.func24, Try.ntmps24
  go_wp2_with fail
  refine name_wp fun W hW => ?_
  have bW : Below w.heap.size w W := by rw [hW]; (repeat (with_reducible first | exact bR _ _ | assumption | refine bD ?_ | refine bN ?_ _ | refine bA ?_ _ | refine bS ?_ _))
  have zW : w.heap.size + 2 ≤ W.heap.size := by rw [hW]; simp
  have ca : W.cell? ⟨w.heap.size, 0, none⟩ = some (.slice aa ts.length ka) := by rw [hW]; first | (simp; done) | go_simp
  have cb : W.cell? ⟨w.heap.size + 1, 0, none⟩ = some (.slice ab ts.length kb) := by rw [hW]; first | (simp; done) | go_simp
  clear hW
  have s1 := t1.keep bW hw1
  have s2 := t2.keep bW hw2
  clear t1 t2
  go_loopw [5] (fun i wr => ∃ k : Nat, k ≤ ts.length ∧ i = .int .i64 k ∧ Below W.heap.size W wr) (fun i _ => ts.length - (intOf i).toNat)
  case atStart => exact ⟨0, Nat.zero_le _, rfl, Below.refl _ _⟩
  case round =>
    obtain ⟨k, hk, rfl, be⟩ := hrel
    have car := ck be ca
    have cbr := ck be cb
    have zr := be.size
    by_cases hlt : k < ts.length
    · obtain ⟨b1, f1, x, y, ea, -, -, c1, d1, u1, -, -⟩ := (s1.keep be (by omega)).at hlt
      obtain ⟨b2, f2, x2, y2, eb, -, -, c2, d2, u2, -, -⟩ := (s2.keep be (by omega)).at hlt
      obtain rfl := ea
      obtain rfl := eb
      have e : (x, y) = (x2, y2) := by rw [u1] at u2; simpa using u2
      obtain ⟨rfl, rfl⟩ := Prod.mk.inj e
      clear u1 u2 e s1 s2
      go_wp2_with fail
      go_quiet (fail)
      go_wp2_with fail
      go_roundw
      case rel => exact ⟨k + 1, by omega, by go_num, by (repeat (first | with_reducible exact Below.refl _ _ | with_reducible assumption | with_reducible refine Below.drew ?_ | with_reducible refine bdrewN ?_ _ | ((with_reducible refine balloc ?_ ?_ _); (focus (first | with_reducible exact Nat.le_refl _ | (simp; done) | omega | (simp; omega) | exact Nat.le_refl _))) | ((with_reducible refine bset ?_ ?_ _); (focus (first | with_reducible exact Nat.le_refl _ | (simp; done) | omega | (simp; omega) | exact Nat.le_refl _)))))⟩
      case measure => simp [intOf]; omega
    · obtain rfl : k = ts.length := by omega
      clear s1 s2
      go_wp2_with fail
      go_ret
      exact ⟨rfl, bW.trans (be.mono (by omega))⟩
end Go.Proofs.Ytoeklalhbkdjnaa.L
