/- Copies of systems. -/
import Derived.Test.YtaohghgdjnkgdaaCopyS
import Derived.Test.YtaohghgdjnkgdaaSz
namespace Go.Proofs.Ytaohghgdjnkgdaa.L
open Go.RowKit Go.Proofs.Ytaohghgdjnkgdaa.S
set_option linter.unusedVariables false
set_option linter.unusedSimpArgs false

theorem mem_tot {α : Type} {f : α → Nat} {xs : List α} {x : α} (h : x ∈ xs) : f x ≤ tot f xs := by
  unfold tot
  induction xs with
  | nil => cases h
  | cons y ys ih =>
    rw [List.map_cons, List.sum_cons]
    rcases List.mem_cons.1 h with rfl | h
    · omega
    · have := ih h; omega

set_option maxRecDepth 100000 in
set_option maxHeartbeats 3200000 in
theorem toSys0_any (o l h vouts vhints vcons) (x : SysC) (w : World) (touts : LinS o l h w vouts x.outs) (thints : HintS o l h w vhints x.hints) (tcons : ConS o l h w vcons x.cons) (hw : h ≤ w.heap.size) (hn : szS x ≤ 1048576) :
    Calls Try.prog 16 #[.agg #[.int .i64 x.ins, vouts, vhints, vcons]] w fun e w' => ∃ uouts uhints ucons M1 M2, e = .returned (.agg #[.int .i64 x.ins, uouts, uhints, ucons]) ∧ Below w.heap.size w w' ∧ w.heap.size ≤ M1 ∧ M1 ≤ M2 ∧ M2 ≤ w'.heap.size ∧ LinS true w.heap.size M1 w' uouts x.outs ∧ HintS true M1 M2 w' uhints x.hints ∧ ConS true M2 w'.heap.size w' ucons x.cons := by
  obtain ⟨aouts, kouts, rfl, laouts, baouts⟩ := touts.shape
  obtain ⟨ahints, khints, rfl, lahints, bahints⟩ := thints.shape
  obtain ⟨acons, kcons, rfl, lacons, bacons⟩ := tcons.shape
  have nouts : x.outs.length ≤ 1048576 := by unfold szS szLs at hn; omega
  have nhints : x.hints.length ≤ 1048576 := by unfold szS szHs at hn; omega
  have ncons : x.cons.length ≤ 1048576 := by unfold szS szCs at hn; omega
  have eouts' : ∀ t ∈ x.outs, t.length ≤ 1048576 := fun t ht => by have := mem_tot (f := List.length) ht; unfold szS szLs at hn; omega
  have ehints' : ∀ t ∈ x.hints, t.a.length ≤ 1048576 ∧ t.b.length ≤ 1048576 := fun t ht => by have := mem_tot (f := szH) ht; unfold szS szHs at hn; have e : szH t = t.a.length + t.b.length := rfl; omega
  have econs' : ∀ t ∈ x.cons, t.a.length ≤ 1048576 ∧ t.b.length ≤ 1048576 ∧ t.c.length ≤ 1048576 := fun t ht => by have := mem_tot (f := szC) ht; unfold szS szCs at hn; have e : szC t = t.a.length + t.b.length + t.c.length := rfl; omega
  have EO := Lib.hid eouts'
  have EH := Lib.hid ehints'
  have EC := Lib.hid econs'
  clear eouts' ehints' econs'
  go_enter Try.func16, Try.ntmps16
  go_wp2_with fail
  refine name_call fun W0 hW0 => ?_
  have B0 : Below w.heap.size w W0 := by rw [hW0]; (repeat (first | with_reducible exact Below.refl _ _ | with_reducible assumption | with_reducible refine Below.drew ?_ | with_reducible refine bdrewN ?_ _ | ((with_reducible refine balloc ?_ ?_ _); (focus (first | with_reducible exact Nat.le_refl _ | (simp; done) | omega | (simp; omega) | exact Nat.le_refl _))) | ((with_reducible refine bset ?_ ?_ _); (focus (first | with_reducible exact Nat.le_refl _ | (simp; done) | omega | (simp; omega) | exact Nat.le_refl _)))))
  have Z0 : W0.heap.size = w.heap.size + 3 := by rw [hW0]; simp
  have p00 : W0.cell? ⟨w.heap.size, 0, none⟩ = some (.int .i64 x.ins) := by rw [hW0]; go_simp
  have p01 : W0.cell? ⟨w.heap.size, 1, none⟩ = some (.slice aouts x.outs.length kouts) := by rw [hW0]; go_simp
  have p02 : W0.cell? ⟨w.heap.size, 2, none⟩ = some (.slice ahints x.hints.length khints) := by rw [hW0]; go_simp
  have p03 : W0.cell? ⟨w.heap.size, 3, none⟩ = some (.slice acons x.cons.length kcons) := by rw [hW0]; go_simp
  have q00 : W0.cell? ⟨w.heap.size + 1 + 1, 0, none⟩ = some (.int .i64 x.ins) := by rw [hW0]; go_simp
  have r00 : W0.cell? ⟨w.heap.size + 1, 0, none⟩ = some (.int .i64 0) := by rw [hW0]; go_simp
  have q01 : W0.cell? ⟨w.heap.size + 1 + 1, 1, none⟩ = some (.slice none 0 0) := by rw [hW0]; go_simp
  have r01 : W0.cell? ⟨w.heap.size + 1, 1, none⟩ = some (.slice none 0 0) := by rw [hW0]; go_simp
  have q02 : W0.cell? ⟨w.heap.size + 1 + 1, 2, none⟩ = some (.slice none 0 0) := by rw [hW0]; go_simp
  have r02 : W0.cell? ⟨w.heap.size + 1, 2, none⟩ = some (.slice none 0 0) := by rw [hW0]; go_simp
  have q03 : W0.cell? ⟨w.heap.size + 1 + 1, 3, none⟩ = some (.slice none 0 0) := by rw [hW0]; go_simp
  have r03 : W0.cell? ⟨w.heap.size + 1, 3, none⟩ = some (.slice none 0 0) := by rw [hW0]; go_simp
  have F0 : ∀ i, W0.frozen? ⟨w.heap.size + 1 + 1, i, none⟩ = false := by intro i; rw [hW0]; go_simp
  have G0 : ∀ i, W0.frozen? ⟨w.heap.size + 1, i, none⟩ = false := by intro i; rw [hW0]; go_simp
  have s0outs := touts.keep B0 hw
  have s0hints := thints.keep B0 hw
  have s0cons := tcons.keep B0 hw
  clear hW0
  refine (toLinS_any o l h _ x.outs _ s0outs (by omega) nouts EO.out).mono ?_; rintro e w0 ⟨z0, rfl, f0, yy0outs⟩
  obtain ⟨couts, mouts, rfl, lcouts, bcouts⟩ := yy0outs.shape
  have bb0 := B0.trans (f0.mono (by omega))
  have zz0 := f0.size
  have pp00 := cell_keep f0 p00
  have qq00 := cell_keep f0 q00
  have rr00 := cell_keep f0 r00
  have pp01 := cell_keep f0 p01
  have qq01 := cell_keep f0 q01
  have rr01 := cell_keep f0 r01
  have pp02 := cell_keep f0 p02
  have qq02 := cell_keep f0 q02
  have rr02 := cell_keep f0 r02
  have pp03 := cell_keep f0 p03
  have qq03 := cell_keep f0 q03
  have rr03 := cell_keep f0 r03
  have FF0 : ∀ i, w0.frozen? ⟨w.heap.size + 1 + 1, i, none⟩ = false := fun j => (f0.frozen (p := ⟨w.heap.size + 1 + 1, j, none⟩) (show w.heap.size + 1 + 1 < W0.heap.size by omega)).trans (F0 j)
  have GG0 : ∀ i, w0.frozen? ⟨w.heap.size + 1, i, none⟩ = false := fun j => (f0.frozen (p := ⟨w.heap.size + 1, j, none⟩) (show w.heap.size + 1 < W0.heap.size by omega)).trans (G0 j)
  clear p00 q00 r00 p01 q01 r01 p02 q02 r02 p03 q03 r03 F0 G0 s0outs s0hints s0cons 
  have lt0 : w.heap.size + 1 + 1 < w0.heap.size := by omega
  have lu0 : w.heap.size + 1 < w0.heap.size := by omega
  have lv0 : w.heap.size < w0.heap.size := by omega
  go_wp2_with fail
  clear lt0 lu0 lv0
  refine name_call fun W1 hW1 => ?_
  have B1 : Below w.heap.size w W1 := by rw [hW1]; exact Below.setCell bb0 (by simp; omega) _
  have Z1 : W1.heap.size = w0.heap.size := by rw [hW1]; simp [World.setCell]
  have p10 := (show W1.cell? ⟨w.heap.size, 0, none⟩ = w0.cell? ⟨w.heap.size, 0, none⟩ by rw [hW1]; exact World.cell?_setCell_other _ _ _ _ (by simp)).trans pp00
  have r10 := (show W1.cell? ⟨w.heap.size + 1, 0, none⟩ = w0.cell? ⟨w.heap.size + 1, 0, none⟩ by rw [hW1]; exact World.cell?_setCell_other _ _ _ _ (by simp)).trans rr00
  have q10 := (show W1.cell? ⟨w.heap.size + 1 + 1, 0, none⟩ = w0.cell? ⟨w.heap.size + 1 + 1, 0, none⟩ by rw [hW1]; exact World.cell?_setCell_other _ _ _ _ (by simp)).trans qq00
  have p11 := (show W1.cell? ⟨w.heap.size, 1, none⟩ = w0.cell? ⟨w.heap.size, 1, none⟩ by rw [hW1]; exact World.cell?_setCell_other _ _ _ _ (by simp)).trans pp01
  have r11 := (show W1.cell? ⟨w.heap.size + 1, 1, none⟩ = w0.cell? ⟨w.heap.size + 1, 1, none⟩ by rw [hW1]; exact World.cell?_setCell_other _ _ _ _ (by simp)).trans rr01
  have q11 : W1.cell? ⟨w.heap.size + 1 + 1, 1, none⟩ = some (.slice couts x.outs.length mouts) := by rw [hW1]; exact World.cell?_setCell_same _ _ _ qq01
  have p12 := (show W1.cell? ⟨w.heap.size, 2, none⟩ = w0.cell? ⟨w.heap.size, 2, none⟩ by rw [hW1]; exact World.cell?_setCell_other _ _ _ _ (by simp)).trans pp02
  have r12 := (show W1.cell? ⟨w.heap.size + 1, 2, none⟩ = w0.cell? ⟨w.heap.size + 1, 2, none⟩ by rw [hW1]; exact World.cell?_setCell_other _ _ _ _ (by simp)).trans rr02
  have q12 := (show W1.cell? ⟨w.heap.size + 1 + 1, 2, none⟩ = w0.cell? ⟨w.heap.size + 1 + 1, 2, none⟩ by rw [hW1]; exact World.cell?_setCell_other _ _ _ _ (by simp)).trans qq02
  have p13 := (show W1.cell? ⟨w.heap.size, 3, none⟩ = w0.cell? ⟨w.heap.size, 3, none⟩ by rw [hW1]; exact World.cell?_setCell_other _ _ _ _ (by simp)).trans pp03
  have r13 := (show W1.cell? ⟨w.heap.size + 1, 3, none⟩ = w0.cell? ⟨w.heap.size + 1, 3, none⟩ by rw [hW1]; exact World.cell?_setCell_other _ _ _ _ (by simp)).trans rr03
  have q13 := (show W1.cell? ⟨w.heap.size + 1 + 1, 3, none⟩ = w0.cell? ⟨w.heap.size + 1 + 1, 3, none⟩ by rw [hW1]; exact World.cell?_setCell_other _ _ _ _ (by simp)).trans qq03
  have F1 : ∀ i, W1.frozen? ⟨w.heap.size + 1 + 1, i, none⟩ = false := by intro i; rw [hW1, World.frozen?_setCell]; exact FF0 i
  have G1 : ∀ i, W1.frozen? ⟨w.heap.size + 1, i, none⟩ = false := by intro i; rw [hW1, World.frozen?_setCell]; exact GG0 i
  have s1hints := thints.keep B1 hw
  have s1cons := tcons.keep B1 hw
  have y1outs := yy0outs.agree (show Same _ _ w0 W1 by rw [hW1]; exact same_set (by omega))
  clear hW1 pp00 qq00 rr00 pp01 qq01 rr01 pp02 qq02 rr02 pp03 qq03 rr03 FF0 GG0 yy0outs
  refine (toHintS_any o l h _ x.hints _ s1hints (by omega) nhints EH.out).mono ?_; rintro e w1 ⟨z1, rfl, f1, yy1hints⟩
  obtain ⟨chints, mhints, rfl, lchints, bchints⟩ := yy1hints.shape
  have bb1 := B1.trans (f1.mono (by omega))
  have zz1 := f1.size
  have pp10 := cell_keep f1 p10
  have qq10 := cell_keep f1 q10
  have rr10 := cell_keep f1 r10
  have pp11 := cell_keep f1 p11
  have qq11 := cell_keep f1 q11
  have rr11 := cell_keep f1 r11
  have pp12 := cell_keep f1 p12
  have qq12 := cell_keep f1 q12
  have rr12 := cell_keep f1 r12
  have pp13 := cell_keep f1 p13
  have qq13 := cell_keep f1 q13
  have rr13 := cell_keep f1 r13
  have FF1 : ∀ i, w1.frozen? ⟨w.heap.size + 1 + 1, i, none⟩ = false := fun j => (f1.frozen (p := ⟨w.heap.size + 1 + 1, j, none⟩) (show w.heap.size + 1 + 1 < W1.heap.size by omega)).trans (F1 j)
  have GG1 : ∀ i, w1.frozen? ⟨w.heap.size + 1, i, none⟩ = false := fun j => (f1.frozen (p := ⟨w.heap.size + 1, j, none⟩) (show w.heap.size + 1 < W1.heap.size by omega)).trans (G1 j)
  have yy1outs := y1outs.keep f1 (by omega)
  clear p10 q10 r10 p11 q11 r11 p12 q12 r12 p13 q13 r13 F1 G1 s1hints s1cons y1outs
  have lt1 : w.heap.size + 1 + 1 < w1.heap.size := by omega
  have lu1 : w.heap.size + 1 < w1.heap.size := by omega
  have lv1 : w.heap.size < w1.heap.size := by omega
  go_wp2_with fail
  clear lt1 lu1 lv1
  refine name_call fun W2 hW2 => ?_
  have B2 : Below w.heap.size w W2 := by rw [hW2]; exact Below.setCell bb1 (by simp; omega) _
  have Z2 : W2.heap.size = w1.heap.size := by rw [hW2]; simp [World.setCell]
  have p20 := (show W2.cell? ⟨w.heap.size, 0, none⟩ = w1.cell? ⟨w.heap.size, 0, none⟩ by rw [hW2]; exact World.cell?_setCell_other _ _ _ _ (by simp)).trans pp10
  have r20 := (show W2.cell? ⟨w.heap.size + 1, 0, none⟩ = w1.cell? ⟨w.heap.size + 1, 0, none⟩ by rw [hW2]; exact World.cell?_setCell_other _ _ _ _ (by simp)).trans rr10
  have q20 := (show W2.cell? ⟨w.heap.size + 1 + 1, 0, none⟩ = w1.cell? ⟨w.heap.size + 1 + 1, 0, none⟩ by rw [hW2]; exact World.cell?_setCell_other _ _ _ _ (by simp)).trans qq10
  have p21 := (show W2.cell? ⟨w.heap.size, 1, none⟩ = w1.cell? ⟨w.heap.size, 1, none⟩ by rw [hW2]; exact World.cell?_setCell_other _ _ _ _ (by simp)).trans pp11
  have r21 := (show W2.cell? ⟨w.heap.size + 1, 1, none⟩ = w1.cell? ⟨w.heap.size + 1, 1, none⟩ by rw [hW2]; exact World.cell?_setCell_other _ _ _ _ (by simp)).trans rr11
  have q21 := (show W2.cell? ⟨w.heap.size + 1 + 1, 1, none⟩ = w1.cell? ⟨w.heap.size + 1 + 1, 1, none⟩ by rw [hW2]; exact World.cell?_setCell_other _ _ _ _ (by simp)).trans qq11
  have p22 := (show W2.cell? ⟨w.heap.size, 2, none⟩ = w1.cell? ⟨w.heap.size, 2, none⟩ by rw [hW2]; exact World.cell?_setCell_other _ _ _ _ (by simp)).trans pp12
  have r22 := (show W2.cell? ⟨w.heap.size + 1, 2, none⟩ = w1.cell? ⟨w.heap.size + 1, 2, none⟩ by rw [hW2]; exact World.cell?_setCell_other _ _ _ _ (by simp)).trans rr12
  have q22 : W2.cell? ⟨w.heap.size + 1 + 1, 2, none⟩ = some (.slice chints x.hints.length mhints) := by rw [hW2]; exact World.cell?_setCell_same _ _ _ qq12
  have p23 := (show W2.cell? ⟨w.heap.size, 3, none⟩ = w1.cell? ⟨w.heap.size, 3, none⟩ by rw [hW2]; exact World.cell?_setCell_other _ _ _ _ (by simp)).trans pp13
  have r23 := (show W2.cell? ⟨w.heap.size + 1, 3, none⟩ = w1.cell? ⟨w.heap.size + 1, 3, none⟩ by rw [hW2]; exact World.cell?_setCell_other _ _ _ _ (by simp)).trans rr13
  have q23 := (show W2.cell? ⟨w.heap.size + 1 + 1, 3, none⟩ = w1.cell? ⟨w.heap.size + 1 + 1, 3, none⟩ by rw [hW2]; exact World.cell?_setCell_other _ _ _ _ (by simp)).trans qq13
  have F2 : ∀ i, W2.frozen? ⟨w.heap.size + 1 + 1, i, none⟩ = false := by intro i; rw [hW2, World.frozen?_setCell]; exact FF1 i
  have G2 : ∀ i, W2.frozen? ⟨w.heap.size + 1, i, none⟩ = false := by intro i; rw [hW2, World.frozen?_setCell]; exact GG1 i
  have s2cons := tcons.keep B2 hw
  have y2outs := yy1outs.agree (show Same _ _ w1 W2 by rw [hW2]; exact same_set (by omega))
  have y2hints := yy1hints.agree (show Same _ _ w1 W2 by rw [hW2]; exact same_set (by omega))
  clear hW2 pp10 qq10 rr10 pp11 qq11 rr11 pp12 qq12 rr12 pp13 qq13 rr13 FF1 GG1 yy1outs yy1hints
  refine (toConS_any o l h _ x.cons _ s2cons (by omega) ncons EC.out).mono ?_; rintro e w2 ⟨z2, rfl, f2, yy2cons⟩
  obtain ⟨ccons, mcons, rfl, lccons, bccons⟩ := yy2cons.shape
  have bb2 := B2.trans (f2.mono (by omega))
  have zz2 := f2.size
  have pp20 := cell_keep f2 p20
  have qq20 := cell_keep f2 q20
  have rr20 := cell_keep f2 r20
  have pp21 := cell_keep f2 p21
  have qq21 := cell_keep f2 q21
  have rr21 := cell_keep f2 r21
  have pp22 := cell_keep f2 p22
  have qq22 := cell_keep f2 q22
  have rr22 := cell_keep f2 r22
  have pp23 := cell_keep f2 p23
  have qq23 := cell_keep f2 q23
  have rr23 := cell_keep f2 r23
  have FF2 : ∀ i, w2.frozen? ⟨w.heap.size + 1 + 1, i, none⟩ = false := fun j => (f2.frozen (p := ⟨w.heap.size + 1 + 1, j, none⟩) (show w.heap.size + 1 + 1 < W2.heap.size by omega)).trans (F2 j)
  have GG2 : ∀ i, w2.frozen? ⟨w.heap.size + 1, i, none⟩ = false := fun j => (f2.frozen (p := ⟨w.heap.size + 1, j, none⟩) (show w.heap.size + 1 < W2.heap.size by omega)).trans (G2 j)
  have yy2outs := y2outs.keep f2 (by omega)
  have yy2hints := y2hints.keep f2 (by omega)
  clear p20 q20 r20 p21 q21 r21 p22 q22 r22 p23 q23 r23 F2 G2 s2cons y2outs y2hints
  have lt2 : w.heap.size + 1 + 1 < w2.heap.size := by omega
  have lu2 : w.heap.size + 1 < w2.heap.size := by omega
  have lv2 : w.heap.size < w2.heap.size := by omega
  go_wp2_with fail
  refine bodyPost_ret (v := .agg #[.int .i64 x.ins, .slice couts x.outs.length mouts, .slice chints x.hints.length mhints, .slice ccons x.cons.length mcons]) (by simp [results, Try.results16, go_sem, qq20, rr20, qq21, rr21, qq22, rr22, qq23, rr23]) rfl ⟨_, _, _, w0.heap.size, w1.heap.size, rfl, ?_, by (try simp only [World.setCell]); (try simp); omega, by (try simp only [World.setCell]); (try simp); omega, by (try simp only [World.setCell]); (try simp); omega, ?_, ?_, ?_⟩
  · (repeat (first | with_reducible exact Below.refl _ _ | with_reducible assumption | with_reducible refine Below.drew ?_ | with_reducible refine bdrewN ?_ _ | ((with_reducible refine balloc ?_ ?_ _); (focus (first | with_reducible exact Nat.le_refl _ | (simp; done) | omega | (simp; omega) | exact Nat.le_refl _))) | ((with_reducible refine bset ?_ ?_ _); (focus (first | with_reducible exact Nat.le_refl _ | (simp; done) | omega | (simp; omega) | exact Nat.le_refl _)))))
  · exact (yy2outs.agree (by (repeat (first | with_reducible exact Same.refl _ _ _ | with_reducible refine Same.set ?_ (by omega))))).mono (by omega) (by first | omega | simp [World.setCell])
  · exact (yy2hints.agree (by (repeat (first | with_reducible exact Same.refl _ _ _ | with_reducible refine Same.set ?_ (by omega))))).mono (by omega) (by first | omega | simp [World.setCell])
  · exact (yy2cons.agree (by (repeat (first | with_reducible exact Same.refl _ _ _ | with_reducible refine Same.set ?_ (by omega))))).mono (by omega) (by first | omega | simp [World.setCell])

theorem toSys_any (o l h vi vo vh vc) (x : SysC) (w : World) (t : SysR o l h w vi vo vh vc x) (hw : h ≤ w.heap.size) (hn : szS x ≤ 1048576) :
    Calls Try.prog 16 #[.agg #[vi, vo, vh, vc]] w fun e w' => ∃ uo uh uc, e = .returned (.agg #[.int .i64 x.ins, uo, uh, uc]) ∧ Below w.heap.size w w' ∧ SysR true w.heap.size w'.heap.size w' (.int .i64 x.ins) uo uh uc x := by
  obtain ⟨a1, a2, a3⟩ := t.parts
  have f := t.2.1
  rw [t.1]
  refine (toSys0_any o l h vo vh vc x w a1 a2 a3 hw hn).mono ?_
  rintro e w' ⟨uo, uh, uc, M1, M2, he, hb, g0, g1, g2, r1, r2, r3⟩
  exact ⟨uo, uh, uc, he, hb, rfl, f, _, _, _, _, _, _, Nat.le_refl _, by omega, by omega, by omega, by omega, Nat.le_refl _, fun _ => ⟨.inl (Nat.le_refl _), .inl (by omega), .inl (Nat.le_refl _)⟩, r1, r2, r3⟩
end Go.Proofs.Ytaohghgdjnkgdaa.L
