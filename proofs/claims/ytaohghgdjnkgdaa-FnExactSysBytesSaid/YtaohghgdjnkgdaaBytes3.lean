/- Hints and constraints as bytes: the program's functions. -/
import Derived.Test.YtaohghgdjnkgdaaBytes2
namespace Go.Proofs.Ytaohghgdjnkgdaa.L
open Go.RowKit Go.Proofs.Ytaohghgdjnkgdaa.S
set_option linter.unusedVariables false
set_option linter.unusedSimpArgs false

def hintBytes (x : HintC) : List Int := [x.kind] ++ linBytes x.a ++ linBytes x.b ++ num4 x.k
def conBytes (c : ConC) : List Int := linBytes c.a ++ linBytes c.b ++ linBytes c.c
theorem linBytes_length (ts : List T) : (linBytes ts).length = 4 + 8 * ts.length := by unfold linBytes; rw [List.length_append, num4_length, termsBytes_length]

set_option maxRecDepth 100000 in
set_option maxHeartbeats 3200000 in
theorem appendCon_any (base : Nat) (v : Value) (bs : List Int) (o l h va vb vc) (x : ConC) (w : World) (hr : w.ownsRow base 5 1 v bs.length (bv bs)) (hb : base ≤ w.heap.size) (ta : Terms o l h w va x.a) (tb : Terms o l h w vb x.b) (tc : Terms o l h w vc x.c) (hh : h ≤ base)
    (fa : Four x.a) (fb : Four x.b) (fc : Four x.c) (na : x.a.length ≤ 1048576) (nb : x.b.length ≤ 1048576) (nc : x.c.length ≤ 1048576) (hn : bs.length ≤ 900000000000) :
    Calls Try.prog 91 #[v, .agg #[va, vb, vc]] w (Adds base w v bs (conBytes x)) := by
  obtain ⟨aa, ka, rfl, laa, baa⟩ := ta.shape
  obtain ⟨ab, kb, rfl, lab, bab⟩ := tb.shape
  obtain ⟨ac, kc, rfl, lac, bac⟩ := tc.shape
  have FA := Lib.hid fa
  have FB := Lib.hid fb
  have FC := Lib.hid fc
  clear fa fb fc
  have LA := Lib.hid (linBytes_length x.a)
  have LB := Lib.hid (linBytes_length x.b)
  go_enter Try.func91, Try.ntmps91
  go_wp2_with fail
  refine name_call fun w1 hw1 => ?_
  have b1 : Below w.heap.size w w1 := by rw [hw1]; (repeat (first | with_reducible exact Below.refl _ _ | with_reducible assumption | with_reducible refine Below.drew ?_ | with_reducible refine bdrewN ?_ _ | ((with_reducible refine balloc ?_ ?_ _); (focus (first | with_reducible exact Nat.le_refl _ | (simp; done) | omega | (simp; omega) | exact Nat.le_refl _))) | ((with_reducible refine bset ?_ ?_ _); (focus (first | with_reducible exact Nat.le_refl _ | (simp; done) | omega | (simp; omega) | exact Nat.le_refl _)))))
  have z1 : w1.heap.size = w.heap.size + 1 := by rw [hw1]; simp
  have cB : w1.cell? ⟨w.heap.size, 1, none⟩ = some (.slice ab x.b.length kb) := by rw [hw1]; first | (simp; done) | go_simp
  have cC : w1.cell? ⟨w.heap.size, 2, none⟩ = some (.slice ac x.c.length kc) := by rw [hw1]; first | (simp; done) | go_simp
  have hr1 := row_keep hr b1
  have ne1 := own_ne hr (b := w.heap.size) (.inl (Nat.le_refl _))
  have ta1 := ta.keep b1 (by omega)
  clear hw1
  refine (appendLin_any base v bs o l h _ x.a w1 hr1 (by omega) ta1 hh FA.out na (by omega)).mono ?_; rintro e w2 ⟨v2, rfl, g2, r2⟩
  have z2 := g2.grown.size
  have cB2 := (g2.cell (b := w.heap.size) (by omega) ne1 1).trans cB
  have cC2 := (g2.cell (b := w.heap.size) (by omega) ne1 2).trans cC
  have G2 := Grew.of_below b1 g2
  have ne2 := g2.ne (b := w.heap.size) (by omega) ne1
  have tb2 := tb.keep (G2.below hr (Nat.le_refl base) hb) (by omega)
  have lw2 : w.heap.size < w2.heap.size := by omega
  have L2 : (bs ++ linBytes x.a).length ≤ 910000000000 := by rw [List.length_append, LA.out]; omega
  clear cB cC g2 hr1 ta1 ne1
  go_wp2_with fail
  refine (appendLin_any base v2 (bs ++ linBytes x.a) o l h _ x.b w2 r2 (by omega) tb2 hh FB.out nb (by omega)).mono ?_; rintro e w3 ⟨v3, rfl, g3, r3⟩
  have z3 := g3.grown.size
  have cC3 := (g3.cell (b := w.heap.size) (by omega) ne2 2).trans cC2
  have G3 := G2.trans g3
  have tc3 := tc.keep (G3.below hr (Nat.le_refl base) hb) (by omega)
  have lw3 : w.heap.size < w3.heap.size := by omega
  have L3 : (bs ++ linBytes x.a ++ linBytes x.b).length ≤ 920000000000 := by rw [List.length_append, LB.out]; omega
  clear cB2 cC2 g3 r2 tb2 ne2 G2
  go_wp2_with fail
  refine (appendLin_any base v3 (bs ++ linBytes x.a ++ linBytes x.b) o l h _ x.c w3 r3 (by omega) tc3 hh FC.out nc (by omega)).mono ?_; rintro e w4 ⟨v4, rfl, g4, r4⟩
  have fin : Adds base w v bs (conBytes x) (.returned v4) w4 := ⟨v4, rfl, G3.trans g4, by rw [show bs ++ conBytes x = bs ++ linBytes x.a ++ linBytes x.b ++ linBytes x.c from by simp [conBytes, List.append_assoc]]; exact r4⟩
  clear g4 r3 r4 tc3 G3 cC3
  go_wp2_with fail
  go_ret
  exact fin

set_option maxRecDepth 100000 in
set_option maxHeartbeats 3200000 in
theorem appendHint_any (base : Nat) (v : Value) (bs : List Int) (o l h va vb) (x : HintC) (w : World) (hr : w.ownsRow base 5 1 v bs.length (bv bs)) (hb : base ≤ w.heap.size) (ta : Terms o l h w va x.a) (tb : Terms o l h w vb x.b) (hh : h ≤ base)
    (fa : Four x.a) (fb : Four x.b) (na : x.a.length ≤ 1048576) (nb : x.b.length ≤ 1048576) (k0 : 0 ≤ x.kind) (k1 : x.kind ≤ 255) (j0 : 0 ≤ x.k) (j1 : x.k ≤ 4294967295) (hn : bs.length ≤ 900000000000) :
    Calls Try.prog 90 #[v, .agg #[.int .i64 x.kind, va, vb, .int .i64 x.k]] w (Adds base w v bs (hintBytes x)) := by
  obtain ⟨aa, ka, rfl, laa, baa⟩ := ta.shape
  obtain ⟨ab, kb, rfl, lab, bab⟩ := tb.shape
  obtain ⟨i0, hi0, hz0, hz1, hz2⟩ := info_parts byteInfo
  have FA := Lib.hid fa
  have FB := Lib.hid fb
  clear fa fb
  have LA := Lib.hid (linBytes_length x.a)
  have LB := Lib.hid (linBytes_length x.b)
  have ne0 := own_ne hr (b := w.heap.size) (.inl (Nat.le_refl _))
  go_enter Try.func90, Try.ntmps90
  go_wp2_with (at_builtin; refine wpList_append_own_at _ rfl _ _ 64 rfl base 5 i0 (.int .u8 0) 1 1 Try.underlying64 hi0 hz0 hz1 hz2 rfl (by decide) _ _ _ rfl ((hr.alloc _).alloc _) ⟨w.heap.size + 1, 0, none⟩ 1 1 (bv [x.kind]) rfl rfl ?c1 ?c2 ?c3 ?c4 ?c5 ?next)
  case c1 => rw [show w.heap.size + 1 = (w.alloc (.cells #[.int .i64 x.kind, .slice aa x.a.length ka, .slice ab x.b.length kb, .int .i64 x.k] 85)).heap.size from by simp]; exact cell_one_new' _ _ _
  case c2 => intro u hu; obtain ⟨y, _, rfl⟩ := List.mem_map.1 hu; rfl
  case c3 => unfold maxLen; omega
  case c4 => omega
  case c5 => simp; omega
  case next =>
  intro v1 w1 hown' hgrow hnil hloc
  have gT : Grew _ w1 v v1 := ⟨hgrow, hloc.imp id (fun h => ⟨_, h, by simp⟩)⟩
  have cA := (gT.cell (b := w.heap.size) (by first | (simp; done) | (simp; omega)) ne0 1).trans (show _ = some (.slice aa x.a.length ka) by go_simp)
  have cB := (gT.cell (b := w.heap.size) (by first | (simp; done) | (simp; omega)) ne0 2).trans (show _ = some (.slice ab x.b.length kb) by go_simp)
  have cK := (gT.cell (b := w.heap.size) (by first | (simp; done) | (simp; omega)) ne0 3).trans (show _ = some (.int .i64 x.k) by go_simp)
  have ne1 := gT.ne (b := w.heap.size) (by first | (simp; done) | (simp; omega)) ne0
  have z1 := gT.grown.size
  have G1 : Grew w w1 v v1 := Grew.of_below (h := gT) (by (repeat (first | with_reducible exact Below.refl _ _ | with_reducible assumption | with_reducible refine Below.drew ?_ | with_reducible refine bdrewN ?_ _ | ((with_reducible refine balloc ?_ ?_ _); (focus (first | with_reducible exact Nat.le_refl _ | (simp; done) | omega | (simp; omega) | exact Nat.le_refl _))) | ((with_reducible refine bset ?_ ?_ _); (focus (first | with_reducible exact Nat.le_refl _ | (simp; done) | omega | (simp; omega) | exact Nat.le_refl _))))))
  simp only [World.size_alloc] at z1
  have r1 : w1.ownsRow base 5 1 v1 (bs ++ [x.kind]).length (bv (bs ++ [x.kind])) := by rw [List.length_append, bv_append]; exact hown'
  have ta1 := ta.keep (G1.below hr (Nat.le_refl base) hb) (by omega)
  have L1 : (bs ++ [x.kind]).length ≤ 900000000001 := by simp; omega
  have lw1 : w.heap.size < w1.heap.size := by omega
  clear hown' hgrow hnil hloc gT ne0
  go_wp2_with fail
  refine (appendLin_any base v1 (bs ++ [x.kind]) o l h _ x.a w1 r1 (by omega) ta1 hh FA.out na (by omega)).mono ?_; rintro e w2 ⟨v2, rfl, g2, r2⟩
  have z2 := g2.grown.size
  have cB2 := (g2.cell (b := w.heap.size) (by omega) ne1 2).trans cB
  have cK2 := (g2.cell (b := w.heap.size) (by omega) ne1 3).trans cK
  have G2 := G1.trans g2
  have ne2 := g2.ne (b := w.heap.size) (by omega) ne1
  have tb2 := tb.keep (G2.below hr (Nat.le_refl base) hb) (by omega)
  have lw2 : w.heap.size < w2.heap.size := by omega
  have L2 : (bs ++ [x.kind] ++ linBytes x.a).length ≤ 910000000000 := by rw [List.length_append, LA.out]; omega
  clear cA cB cK g2 r1 ta1 ne1 G1
  go_wp2_with fail
  refine (appendLin_any base v2 (bs ++ [x.kind] ++ linBytes x.a) o l h _ x.b w2 r2 (by omega) tb2 hh FB.out nb (by omega)).mono ?_; rintro e w3 ⟨v3, rfl, g3, r3⟩
  have z3 := g3.grown.size
  have cK3 := (g3.cell (b := w.heap.size) (by omega) ne2 3).trans cK2
  have G3 := G2.trans g3
  have lw3 : w.heap.size < w3.heap.size := by omega
  have L3 : (bs ++ [x.kind] ++ linBytes x.a ++ linBytes x.b).length ≤ 920000000000 := by rw [List.length_append, LB.out]; omega
  clear cB2 cK2 g3 r2 tb2 ne2 G2
  go_wp2_with fail
  refine (appendNumber_any base v3 (bs ++ [x.kind] ++ linBytes x.a ++ linBytes x.b) x.k w3 r3 (by omega) (by omega) j0 j1).mono ?_; rintro e w4 ⟨v4, rfl, g4, r4⟩
  have fin : Adds base w v bs (hintBytes x) (.returned v4) w4 := ⟨v4, rfl, G3.trans g4, by rw [show bs ++ hintBytes x = bs ++ [x.kind] ++ linBytes x.a ++ linBytes x.b ++ num4 x.k from by simp [hintBytes, List.append_assoc]]; exact r4⟩
  clear g4 r3 r4 G3 cK3
  go_wp2_with fail
  go_ret
  exact fin
end Go.Proofs.Ytaohghgdjnkgdaa.L
