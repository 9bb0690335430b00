/- Copies of hints and constraints. -/
import Derived.Test.YtaohghgdjnkgdaaCopy
namespace Go.Proofs.Ytaohghgdjnkgdaa.L
open Go.RowKit Go.Proofs.Ytaohghgdjnkgdaa.S
set_option linter.unusedVariables false
set_option linter.unusedSimpArgs false

theorem Same.refl (l h : Nat) (w : World) : Same l h w w := fun _ _ _ => rfl
theorem Same.set {l h b o : Nat} {a w : World} {u : Value} (s : Same l h a w) (hb : b < l) : Same l h a (w.setCell ⟨b, o, none⟩ u) := s.trans (same_set hb)

set_option maxRecDepth 100000 in
set_option maxHeartbeats 3200000 in
theorem toHint_any (o l h va vb) (x : HintC) (w : World) (ta : Terms o l h w va x.a) (tb : Terms o l h w vb x.b) (hw : h ≤ w.heap.size) (na : x.a.length ≤ 1048576) (nb : x.b.length ≤ 1048576) :
    Calls Try.prog 102 #[.agg #[.int .i64 x.kind, va, vb, .int .i64 x.k]] w fun e w' => ∃ ua ub M1, e = .returned (.agg #[.int .i64 x.kind, ua, ub, .int .i64 x.k]) ∧ Below w.heap.size w w' ∧ w.heap.size ≤ M1 ∧ M1 ≤ w'.heap.size ∧ Terms true w.heap.size M1 w' ua x.a ∧ Terms true M1 w'.heap.size w' ub x.b := by
  obtain ⟨aa, ka, rfl, laa, baa⟩ := ta.shape
  obtain ⟨ab, kb, rfl, lab, bab⟩ := tb.shape
  go_enter Try.func102, Try.ntmps102
  go_wp2_with fail
  refine name_call fun W0 hW0 => ?_
  have B0 : Below w.heap.size w W0 := by rw [hW0]; (repeat (first | with_reducible exact Below.refl _ _ | with_reducible assumption | with_reducible refine Below.drew ?_ | with_reducible refine bdrewN ?_ _ | ((with_reducible refine balloc ?_ ?_ _); (focus (first | with_reducible exact Nat.le_refl _ | (simp; done) | omega | (simp; omega) | exact Nat.le_refl _))) | ((with_reducible refine bset ?_ ?_ _); (focus (first | with_reducible exact Nat.le_refl _ | (simp; done) | omega | (simp; omega) | exact Nat.le_refl _)))))
  have Z0 : W0.heap.size = w.heap.size + 3 := by rw [hW0]; simp
  have p00 : W0.cell? ⟨w.heap.size, 0, none⟩ = some (.int .i64 x.kind) := by rw [hW0]; go_simp
  have p01 : W0.cell? ⟨w.heap.size, 1, none⟩ = some (.slice aa x.a.length ka) := by rw [hW0]; go_simp
  have p02 : W0.cell? ⟨w.heap.size, 2, none⟩ = some (.slice ab x.b.length kb) := by rw [hW0]; go_simp
  have p03 : W0.cell? ⟨w.heap.size, 3, none⟩ = some (.int .i64 x.k) := by rw [hW0]; go_simp
  have q00 : W0.cell? ⟨w.heap.size + 1 + 1, 0, none⟩ = some (.int .i64 x.kind) := by rw [hW0]; go_simp
  have r00 : W0.cell? ⟨w.heap.size + 1, 0, none⟩ = some (.int .i64 0) := by rw [hW0]; go_simp
  have q01 : W0.cell? ⟨w.heap.size + 1 + 1, 1, none⟩ = some (.slice none 0 0) := by rw [hW0]; go_simp
  have r01 : W0.cell? ⟨w.heap.size + 1, 1, none⟩ = some (.slice none 0 0) := by rw [hW0]; go_simp
  have q02 : W0.cell? ⟨w.heap.size + 1 + 1, 2, none⟩ = some (.slice none 0 0) := by rw [hW0]; go_simp
  have r02 : W0.cell? ⟨w.heap.size + 1, 2, none⟩ = some (.slice none 0 0) := by rw [hW0]; go_simp
  have q03 : W0.cell? ⟨w.heap.size + 1 + 1, 3, none⟩ = some (.int .i64 0) := by rw [hW0]; go_simp
  have r03 : W0.cell? ⟨w.heap.size + 1, 3, none⟩ = some (.int .i64 0) := by rw [hW0]; go_simp
  have F0 : ∀ i, W0.frozen? ⟨w.heap.size + 1 + 1, i, none⟩ = false := by intro i; rw [hW0]; go_simp
  have G0 : ∀ i, W0.frozen? ⟨w.heap.size + 1, i, none⟩ = false := by intro i; rw [hW0]; go_simp
  have s0a := ta.keep B0 hw
  have s0b := tb.keep B0 hw
  clear hW0
  refine (toLin_any o l h _ x.a _ s0a (by omega) na).mono ?_; rintro e w0 ⟨z0, rfl, f0, yy0a⟩
  obtain ⟨ca, ma, rfl, lca, bca⟩ := yy0a.shape
  have bb0 := B0.trans (f0.mono (by omega))
  have zz0 := f0.size
  have pp00 := cell_keep f0 p00
  have qq00 := cell_keep f0 q00
  have rr00 := cell_keep f0 r00
  have pp01 := cell_keep f0 p01
  have qq01 := cell_keep f0 q01
  have rr01 := cell_keep f0 r01
  have pp02 := cell_keep f0 p02
  have qq02 := cell_keep f0 q02
  have rr02 := cell_keep f0 r02
  have pp03 := cell_keep f0 p03
  have qq03 := cell_keep f0 q03
  have rr03 := cell_keep f0 r03
  have FF0 : ∀ i, w0.frozen? ⟨w.heap.size + 1 + 1, i, none⟩ = false := fun j => (f0.frozen (p := ⟨w.heap.size + 1 + 1, j, none⟩) (show w.heap.size + 1 + 1 < W0.heap.size by omega)).trans (F0 j)
  have GG0 : ∀ i, w0.frozen? ⟨w.heap.size + 1, i, none⟩ = false := fun j => (f0.frozen (p := ⟨w.heap.size + 1, j, none⟩) (show w.heap.size + 1 < W0.heap.size by omega)).trans (G0 j)
  clear p00 q00 r00 p01 q01 r01 p02 q02 r02 p03 q03 r03 F0 G0 s0a s0b 
  have lt0 : w.heap.size + 1 + 1 < w0.heap.size := by omega
  have lu0 : w.heap.size + 1 < w0.heap.size := by omega
  have lv0 : w.heap.size < w0.heap.size := by omega
  go_wp2_with fail
  clear lt0 lu0 lv0
  refine name_call fun W1 hW1 => ?_
  have B1 : Below w.heap.size w W1 := by rw [hW1]; exact Below.setCell bb0 (by simp; omega) _
  have Z1 : W1.heap.size = w0.heap.size := by rw [hW1]; simp [World.setCell]
  have p10 := (show W1.cell? ⟨w.heap.size, 0, none⟩ = w0.cell? ⟨w.heap.size, 0, none⟩ by rw [hW1]; exact World.cell?_setCell_other _ _ _ _ (by simp)).trans pp00
  have r10 := (show W1.cell? ⟨w.heap.size + 1, 0, none⟩ = w0.cell? ⟨w.heap.size + 1, 0, none⟩ by rw [hW1]; exact World.cell?_setCell_other _ _ _ _ (by simp)).trans rr00
  have q10 := (show W1.cell? ⟨w.heap.size + 1 + 1, 0, none⟩ = w0.cell? ⟨w.heap.size + 1 + 1, 0, none⟩ by rw [hW1]; exact World.cell?_setCell_other _ _ _ _ (by simp)).trans qq00
  have p11 := (show W1.cell? ⟨w.heap.size, 1, none⟩ = w0.cell? ⟨w.heap.size, 1, none⟩ by rw [hW1]; exact World.cell?_setCell_other _ _ _ _ (by simp)).trans pp01
  have r11 := (show W1.cell? ⟨w.heap.size + 1, 1, none⟩ = w0.cell? ⟨w.heap.size + 1, 1, none⟩ by rw [hW1]; exact World.cell?_setCell_other _ _ _ _ (by simp)).trans rr01
  have q11 : W1.cell? ⟨w.heap.size + 1 + 1, 1, none⟩ = some (.slice ca x.a.length ma) := by rw [hW1]; exact World.cell?_setCell_same _ _ _ qq01
  have p12 := (show W1.cell? ⟨w.heap.size, 2, none⟩ = w0.cell? ⟨w.heap.size, 2, none⟩ by rw [hW1]; exact World.cell?_setCell_other _ _ _ _ (by simp)).trans pp02
  have r12 := (show W1.cell? ⟨w.heap.size + 1, 2, none⟩ = w0.cell? ⟨w.heap.size + 1, 2, none⟩ by rw [hW1]; exact World.cell?_setCell_other _ _ _ _ (by simp)).trans rr02
  have q12 := (show W1.cell? ⟨w.heap.size + 1 + 1, 2, none⟩ = w0.cell? ⟨w.heap.size + 1 + 1, 2, none⟩ by rw [hW1]; exact World.cell?_setCell_other _ _ _ _ (by simp)).trans qq02
  have p13 := (show W1.cell? ⟨w.heap.size, 3, none⟩ = w0.cell? ⟨w.heap.size, 3, none⟩ by rw [hW1]; exact World.cell?_setCell_other _ _ _ _ (by simp)).trans pp03
  have r13 := (show W1.cell? ⟨w.heap.size + 1, 3, none⟩ = w0.cell? ⟨w.heap.size + 1, 3, none⟩ by rw [hW1]; exact World.cell?_setCell_other _ _ _ _ (by simp)).trans rr03
  have q13 := (show W1.cell? ⟨w.heap.size + 1 + 1, 3, none⟩ = w0.cell? ⟨w.heap.size + 1 + 1, 3, none⟩ by rw [hW1]; exact World.cell?_setCell_other _ _ _ _ (by simp)).trans qq03
  have F1 : ∀ i, W1.frozen? ⟨w.heap.size + 1 + 1, i, none⟩ = false := by intro i; rw [hW1, World.frozen?_setCell]; exact FF0 i
  have G1 : ∀ i, W1.frozen? ⟨w.heap.size + 1, i, none⟩ = false := by intro i; rw [hW1, World.frozen?_setCell]; exact GG0 i
  have s1b := tb.keep B1 hw
  have y1a := yy0a.agree (show Same _ _ w0 W1 by rw [hW1]; exact same_set (by omega))
  clear hW1 pp00 qq00 rr00 pp01 qq01 rr01 pp02 qq02 rr02 pp03 qq03 rr03 FF0 GG0 yy0a
  refine (toLin_any o l h _ x.b _ s1b (by omega) nb).mono ?_; rintro e w1 ⟨z1, rfl, f1, yy1b⟩
  obtain ⟨cb, mb, rfl, lcb, bcb⟩ := yy1b.shape
  have bb1 := B1.trans (f1.mono (by omega))
  have zz1 := f1.size
  have pp10 := cell_keep f1 p10
  have qq10 := cell_keep f1 q10
  have rr10 := cell_keep f1 r10
  have pp11 := cell_keep f1 p11
  have qq11 := cell_keep f1 q11
  have rr11 := cell_keep f1 r11
  have pp12 := cell_keep f1 p12
  have qq12 := cell_keep f1 q12
  have rr12 := cell_keep f1 r12
  have pp13 := cell_keep f1 p13
  have qq13 := cell_keep f1 q13
  have rr13 := cell_keep f1 r13
  have FF1 : ∀ i, w1.frozen? ⟨w.heap.size + 1 + 1, i, none⟩ = false := fun j => (f1.frozen (p := ⟨w.heap.size + 1 + 1, j, none⟩) (show w.heap.size + 1 + 1 < W1.heap.size by omega)).trans (F1 j)
  have GG1 : ∀ i, w1.frozen? ⟨w.heap.size + 1, i, none⟩ = false := fun j => (f1.frozen (p := ⟨w.heap.size + 1, j, none⟩) (show w.heap.size + 1 < W1.heap.size by omega)).trans (G1 j)
  have yy1a := y1a.keep f1 (by omega)
  clear p10 q10 r10 p11 q11 r11 p12 q12 r12 p13 q13 r13 F1 G1 s1b y1a
  have lt1 : w.heap.size + 1 + 1 < w1.heap.size := by omega
  have lu1 : w.heap.size + 1 < w1.heap.size := by omega
  have lv1 : w.heap.size < w1.heap.size := by omega
  go_wp2_with fail
  refine bodyPost_ret (v := .agg #[.int .i64 x.kind, .slice ca x.a.length ma, .slice cb x.b.length mb, .int .i64 x.k]) (by simp [results, Try.results102, go_sem, qq10, rr10, qq11, rr11, qq12, rr12, qq13, rr13]) rfl ⟨_, _, w0.heap.size, rfl, ?_, by (try simp only [World.setCell]); (try simp); omega, by (try simp only [World.setCell]); (try simp); omega, ?_, ?_⟩
  · (repeat (first | with_reducible exact Below.refl _ _ | with_reducible assumption | with_reducible refine Below.drew ?_ | with_reducible refine bdrewN ?_ _ | ((with_reducible refine balloc ?_ ?_ _); (focus (first | with_reducible exact Nat.le_refl _ | (simp; done) | omega | (simp; omega) | exact Nat.le_refl _))) | ((with_reducible refine bset ?_ ?_ _); (focus (first | with_reducible exact Nat.le_refl _ | (simp; done) | omega | (simp; omega) | exact Nat.le_refl _)))))
  · exact (yy1a.agree (by (repeat (first | with_reducible exact Same.refl _ _ _ | with_reducible refine Same.set ?_ (by omega))))).mono (by omega) (by first | omega | simp [World.setCell])
  · exact (yy1b.agree (by (repeat (first | with_reducible exact Same.refl _ _ _ | with_reducible refine Same.set ?_ (by omega))))).mono (by omega) (by first | omega | simp [World.setCell])

set_option maxRecDepth 100000 in
set_option maxHeartbeats 3200000 in
theorem toCon_any (o l h va vb vc) (x : ConC) (w : World) (ta : Terms o l h w va x.a) (tb : Terms o l h w vb x.b) (tc : Terms o l h w vc x.c) (hw : h ≤ w.heap.size) (na : x.a.length ≤ 1048576) (nb : x.b.length ≤ 1048576) (nc : x.c.length ≤ 1048576) :
    Calls Try.prog 25 #[.agg #[va, vb, vc]] w fun e w' => ∃ ua ub uc M1 M2, e = .returned (.agg #[ua, ub, uc]) ∧ Below w.heap.size w w' ∧ w.heap.size ≤ M1 ∧ M1 ≤ M2 ∧ M2 ≤ w'.heap.size ∧ Terms true w.heap.size M1 w' ua x.a ∧ Terms true M1 M2 w' ub x.b ∧ Terms true M2 w'.heap.size w' uc x.c := by
  obtain ⟨aa, ka, rfl, laa, baa⟩ := ta.shape
  obtain ⟨ab, kb, rfl, lab, bab⟩ := tb.shape
  obtain ⟨ac, kc, rfl, lac, bac⟩ := tc.shape
  go_enter Try.func25, Try.ntmps25
  go_wp2_with fail
  refine name_call fun W0 hW0 => ?_
  have B0 : Below w.heap.size w W0 := by rw [hW0]; (repeat (first | with_reducible exact Below.refl _ _ | with_reducible assumption | with_reducible refine Below.drew ?_ | with_reducible refine bdrewN ?_ _ | ((with_reducible refine balloc ?_ ?_ _); (focus (first | with_reducible exact Nat.le_refl _ | (simp; done) | omega | (simp; omega) | exact Nat.le_refl _))) | ((with_reducible refine bset ?_ ?_ _); (focus (first | with_reducible exact Nat.le_refl _ | (simp; done) | omega | (simp; omega) | exact Nat.le_refl _)))))
  have Z0 : W0.heap.size = w.heap.size + 3 := by rw [hW0]; simp
  have p00 : W0.cell? ⟨w.heap.size, 0, none⟩ = some (.slice aa x.a.length ka) := by rw [hW0]; go_simp
  have p01 : W0.cell? ⟨w.heap.size, 1, none⟩ = some (.slice ab x.b.length kb) := by rw [hW0]; go_simp
  have p02 : W0.cell? ⟨w.heap.size, 2, none⟩ = some (.slice ac x.c.length kc) := by rw [hW0]; go_simp
  have q00 : W0.cell? ⟨w.heap.size + 1 + 1, 0, none⟩ = some (.slice none 0 0) := by rw [hW0]; go_simp
  have r00 : W0.cell? ⟨w.heap.size + 1, 0, none⟩ = some (.slice none 0 0) := by rw [hW0]; go_simp
  have q01 : W0.cell? ⟨w.heap.size + 1 + 1, 1, none⟩ = some (.slice none 0 0) := by rw [hW0]; go_simp
  have r01 : W0.cell? ⟨w.heap.size + 1, 1, none⟩ = some (.slice none 0 0) := by rw [hW0]; go_simp
  have q02 : W0.cell? ⟨w.heap.size + 1 + 1, 2, none⟩ = some (.slice none 0 0) := by rw [hW0]; go_simp
  have r02 : W0.cell? ⟨w.heap.size + 1, 2, none⟩ = some (.slice none 0 0) := by rw [hW0]; go_simp
  have F0 : ∀ i, W0.frozen? ⟨w.heap.size + 1 + 1, i, none⟩ = false := by intro i; rw [hW0]; go_simp
  have G0 : ∀ i, W0.frozen? ⟨w.heap.size + 1, i, none⟩ = false := by intro i; rw [hW0]; go_simp
  have s0a := ta.keep B0 hw
  have s0b := tb.keep B0 hw
  have s0c := tc.keep B0 hw
  clear hW0
  refine (toLin_any o l h _ x.a _ s0a (by omega) na).mono ?_; rintro e w0 ⟨z0, rfl, f0, yy0a⟩
  obtain ⟨ca, ma, rfl, lca, bca⟩ := yy0a.shape
  have bb0 := B0.trans (f0.mono (by omega))
  have zz0 := f0.size
  have pp00 := cell_keep f0 p00
  have qq00 := cell_keep f0 q00
  have rr00 := cell_keep f0 r00
  have pp01 := cell_keep f0 p01
  have qq01 := cell_keep f0 q01
  have rr01 := cell_keep f0 r01
  have pp02 := cell_keep f0 p02
  have qq02 := cell_keep f0 q02
  have rr02 := cell_keep f0 r02
  have FF0 : ∀ i, w0.frozen? ⟨w.heap.size + 1 + 1, i, none⟩ = false := fun j => (f0.frozen (p := ⟨w.heap.size + 1 + 1, j, none⟩) (show w.heap.size + 1 + 1 < W0.heap.size by omega)).trans (F0 j)
  have GG0 : ∀ i, w0.frozen? ⟨w.heap.size + 1, i, none⟩ = false := fun j => (f0.frozen (p := ⟨w.heap.size + 1, j, none⟩) (show w.heap.size + 1 < W0.heap.size by omega)).trans (G0 j)
  clear p00 q00 r00 p01 q01 r01 p02 q02 r02 F0 G0 s0a s0b s0c 
  have lt0 : w.heap.size + 1 + 1 < w0.heap.size := by omega
  have lu0 : w.heap.size + 1 < w0.heap.size := by omega
  have lv0 : w.heap.size < w0.heap.size := by omega
  go_wp2_with fail
  clear lt0 lu0 lv0
  refine name_call fun W1 hW1 => ?_
  have B1 : Below w.heap.size w W1 := by rw [hW1]; exact Below.setCell bb0 (by simp; omega) _
  have Z1 : W1.heap.size = w0.heap.size := by rw [hW1]; simp [World.setCell]
  have p10 := (show W1.cell? ⟨w.heap.size, 0, none⟩ = w0.cell? ⟨w.heap.size, 0, none⟩ by rw [hW1]; exact World.cell?_setCell_other _ _ _ _ (by simp)).trans pp00
  have r10 := (show W1.cell? ⟨w.heap.size + 1, 0, none⟩ = w0.cell? ⟨w.heap.size + 1, 0, none⟩ by rw [hW1]; exact World.cell?_setCell_other _ _ _ _ (by simp)).trans rr00
  have q10 : W1.cell? ⟨w.heap.size + 1 + 1, 0, none⟩ = some (.slice ca x.a.length ma) := by rw [hW1]; exact World.cell?_setCell_same _ _ _ qq00
  have p11 := (show W1.cell? ⟨w.heap.size, 1, none⟩ = w0.cell? ⟨w.heap.size, 1, none⟩ by rw [hW1]; exact World.cell?_setCell_other _ _ _ _ (by simp)).trans pp01
  have r11 := (show W1.cell? ⟨w.heap.size + 1, 1, none⟩ = w0.cell? ⟨w.heap.size + 1, 1, none⟩ by rw [hW1]; exact World.cell?_setCell_other _ _ _ _ (by simp)).trans rr01
  have q11 := (show W1.cell? ⟨w.heap.size + 1 + 1, 1, none⟩ = w0.cell? ⟨w.heap.size + 1 + 1, 1, none⟩ by rw [hW1]; exact World.cell?_setCell_other _ _ _ _ (by simp)).trans qq01
  have p12 := (show W1.cell? ⟨w.heap.size, 2, none⟩ = w0.cell? ⟨w.heap.size, 2, none⟩ by rw [hW1]; exact World.cell?_setCell_other _ _ _ _ (by simp)).trans pp02
  have r12 := (show W1.cell? ⟨w.heap.size + 1, 2, none⟩ = w0.cell? ⟨w.heap.size + 1, 2, none⟩ by rw [hW1]; exact World.cell?_setCell_other _ _ _ _ (by simp)).trans rr02
  have q12 := (show W1.cell? ⟨w.heap.size + 1 + 1, 2, none⟩ = w0.cell? ⟨w.heap.size + 1 + 1, 2, none⟩ by rw [hW1]; exact World.cell?_setCell_other _ _ _ _ (by simp)).trans qq02
  have F1 : ∀ i, W1.frozen? ⟨w.heap.size + 1 + 1, i, none⟩ = false := by intro i; rw [hW1, World.frozen?_setCell]; exact FF0 i
  have G1 : ∀ i, W1.frozen? ⟨w.heap.size + 1, i, none⟩ = false := by intro i; rw [hW1, World.frozen?_setCell]; exact GG0 i
  have s1b := tb.keep B1 hw
  have s1c := tc.keep B1 hw
  have y1a := yy0a.agree (show Same _ _ w0 W1 by rw [hW1]; exact same_set (by omega))
  clear hW1 pp00 qq00 rr00 pp01 qq01 rr01 pp02 qq02 rr02 FF0 GG0 yy0a
  refine (toLin_any o l h _ x.b _ s1b (by omega) nb).mono ?_; rintro e w1 ⟨z1, rfl, f1, yy1b⟩
  obtain ⟨cb, mb, rfl, lcb, bcb⟩ := yy1b.shape
  have bb1 := B1.trans (f1.mono (by omega))
  have zz1 := f1.size
  have pp10 := cell_keep f1 p10
  have qq10 := cell_keep f1 q10
  have rr10 := cell_keep f1 r10
  have pp11 := cell_keep f1 p11
  have qq11 := cell_keep f1 q11
  have rr11 := cell_keep f1 r11
  have pp12 := cell_keep f1 p12
  have qq12 := cell_keep f1 q12
  have rr12 := cell_keep f1 r12
  have FF1 : ∀ i, w1.frozen? ⟨w.heap.size + 1 + 1, i, none⟩ = false := fun j => (f1.frozen (p := ⟨w.heap.size + 1 + 1, j, none⟩) (show w.heap.size + 1 + 1 < W1.heap.size by omega)).trans (F1 j)
  have GG1 : ∀ i, w1.frozen? ⟨w.heap.size + 1, i, none⟩ = false := fun j => (f1.frozen (p := ⟨w.heap.size + 1, j, none⟩) (show w.heap.size + 1 < W1.heap.size by omega)).trans (G1 j)
  have yy1a := y1a.keep f1 (by omega)
  clear p10 q10 r10 p11 q11 r11 p12 q12 r12 F1 G1 s1b s1c y1a
  have lt1 : w.heap.size + 1 + 1 < w1.heap.size := by omega
  have lu1 : w.heap.size + 1 < w1.heap.size := by omega
  have lv1 : w.heap.size < w1.heap.size := by omega
  go_wp2_with fail
  clear lt1 lu1 lv1
  refine name_call fun W2 hW2 => ?_
  have B2 : Below w.heap.size w W2 := by rw [hW2]; exact Below.setCell bb1 (by simp; omega) _
  have Z2 : W2.heap.size = w1.heap.size := by rw [hW2]; simp [World.setCell]
  have p20 := (show W2.cell? ⟨w.heap.size, 0, none⟩ = w1.cell? ⟨w.heap.size, 0, none⟩ by rw [hW2]; exact World.cell?_setCell_other _ _ _ _ (by simp)).trans pp10
  have r20 := (show W2.cell? ⟨w.heap.size + 1, 0, none⟩ = w1.cell? ⟨w.heap.size + 1, 0, none⟩ by rw [hW2]; exact World.cell?_setCell_other _ _ _ _ (by simp)).trans rr10
  have q20 := (show W2.cell? ⟨w.heap.size + 1 + 1, 0, none⟩ = w1.cell? ⟨w.heap.size + 1 + 1, 0, none⟩ by rw [hW2]; exact World.cell?_setCell_other _ _ _ _ (by simp)).trans qq10
  have p21 := (show W2.cell? ⟨w.heap.size, 1, none⟩ = w1.cell? ⟨w.heap.size, 1, none⟩ by rw [hW2]; exact World.cell?_setCell_other _ _ _ _ (by simp)).trans pp11
  have r21 := (show W2.cell? ⟨w.heap.size + 1, 1, none⟩ = w1.cell? ⟨w.heap.size + 1, 1, none⟩ by rw [hW2]; exact World.cell?_setCell_other _ _ _ _ (by simp)).trans rr11
  have q21 : W2.cell? ⟨w.heap.size + 1 + 1, 1, none⟩ = some (.slice cb x.b.length mb) := by rw [hW2]; exact World.cell?_setCell_same _ _ _ qq11
  have p22 := (show W2.cell? ⟨w.heap.size, 2, none⟩ = w1.cell? ⟨w.heap.size, 2, none⟩ by rw [hW2]; exact World.cell?_setCell_other _ _ _ _ (by simp)).trans pp12
  have r22 := (show W2.cell? ⟨w.heap.size + 1, 2, none⟩ = w1.cell? ⟨w.heap.size + 1, 2, none⟩ by rw [hW2]; exact World.cell?_setCell_other _ _ _ _ (by simp)).trans rr12
  have q22 := (show W2.cell? ⟨w.heap.size + 1 + 1, 2, none⟩ = w1.cell? ⟨w.heap.size + 1 + 1, 2, none⟩ by rw [hW2]; exact World.cell?_setCell_other _ _ _ _ (by simp)).trans qq12
  have F2 : ∀ i, W2.frozen? ⟨w.heap.size + 1 + 1, i, none⟩ = false := by intro i; rw [hW2, World.frozen?_setCell]; exact FF1 i
  have G2 : ∀ i, W2.frozen? ⟨w.heap.size + 1, i, none⟩ = false := by intro i; rw [hW2, World.frozen?_setCell]; exact GG1 i
  have s2c := tc.keep B2 hw
  have y2a := yy1a.agree (show Same _ _ w1 W2 by rw [hW2]; exact same_set (by omega))
  have y2b := yy1b.agree (show Same _ _ w1 W2 by rw [hW2]; exact same_set (by omega))
  clear hW2 pp10 qq10 rr10 pp11 qq11 rr11 pp12 qq12 rr12 FF1 GG1 yy1a yy1b
  refine (toLin_any o l h _ x.c _ s2c (by omega) nc).mono ?_; rintro e w2 ⟨z2, rfl, f2, yy2c⟩
  obtain ⟨cc, mc, rfl, lcc, bcc⟩ := yy2c.shape
  have bb2 := B2.trans (f2.mono (by omega))
  have zz2 := f2.size
  have pp20 := cell_keep f2 p20
  have qq20 := cell_keep f2 q20
  have rr20 := cell_keep f2 r20
  have pp21 := cell_keep f2 p21
  have qq21 := cell_keep f2 q21
  have rr21 := cell_keep f2 r21
  have pp22 := cell_keep f2 p22
  have qq22 := cell_keep f2 q22
  have rr22 := cell_keep f2 r22
  have FF2 : ∀ i, w2.frozen? ⟨w.heap.size + 1 + 1, i, none⟩ = false := fun j => (f2.frozen (p := ⟨w.heap.size + 1 + 1, j, none⟩) (show w.heap.size + 1 + 1 < W2.heap.size by omega)).trans (F2 j)
  have GG2 : ∀ i, w2.frozen? ⟨w.heap.size + 1, i, none⟩ = false := fun j => (f2.frozen (p := ⟨w.heap.size + 1, j, none⟩) (show w.heap.size + 1 < W2.heap.size by omega)).trans (G2 j)
  have yy2a := y2a.keep f2 (by omega)
  have yy2b := y2b.keep f2 (by omega)
  clear p20 q20 r20 p21 q21 r21 p22 q22 r22 F2 G2 s2c y2a y2b
  have lt2 : w.heap.size + 1 + 1 < w2.heap.size := by omega
  have lu2 : w.heap.size + 1 < w2.heap.size := by omega
  have lv2 : w.heap.size < w2.heap.size := by omega
  go_wp2_with fail
  refine bodyPost_ret (v := .agg #[.slice ca x.a.length ma, .slice cb x.b.length mb, .slice cc x.c.length mc]) (by simp [results, Try.results25, go_sem, qq20, rr20, qq21, rr21, qq22, rr22]) rfl ⟨_, _, _, w0.heap.size, w1.heap.size, rfl, ?_, by (try simp only [World.setCell]); (try simp); omega, by (try simp only [World.setCell]); (try simp); omega, by (try simp only [World.setCell]); (try simp); omega, ?_, ?_, ?_⟩
  · (repeat (first | with_reducible exact Below.refl _ _ | with_reducible assumption | with_reducible refine Below.drew ?_ | with_reducible refine bdrewN ?_ _ | ((with_reducible refine balloc ?_ ?_ _); (focus (first | with_reducible exact Nat.le_refl _ | (simp; done) | omega | (simp; omega) | exact Nat.le_refl _))) | ((with_reducible refine bset ?_ ?_ _); (focus (first | with_reducible exact Nat.le_refl _ | (simp; done) | omega | (simp; omega) | exact Nat.le_refl _)))))
  · exact (yy2a.agree (by (repeat (first | with_reducible exact Same.refl _ _ _ | with_reducible refine Same.set ?_ (by omega))))).mono (by omega) (by first | omega | simp [World.setCell])
  · exact (yy2b.agree (by (repeat (first | with_reducible exact Same.refl _ _ _ | with_reducible refine Same.set ?_ (by omega))))).mono (by omega) (by first | omega | simp [World.setCell])
  · exact (yy2c.agree (by (repeat (first | with_reducible exact Same.refl _ _ _ | with_reducible refine Same.set ?_ (by omega))))).mono (by omega) (by first | omega | simp [World.setCell])
end Go.Proofs.Ytaohghgdjnkgdaa.L
