/- What the builder adds and what the model adds are the same: AddZero. -/
import Derived.Test.YtcenijdaacbgpaaGreatSame5
namespace Go.Proofs.YtcenijdaacbgpaaGreat.L
open Go.RowKit Go.Proofs.YtcenijdaacbgpaaGreat.S
set_option linter.unusedVariables false
set_option linter.unusedSimpArgs false

theorem varsN_zero (s : SysC) (x : List T) : varsN (zeroS s x) = varsN s + 2 := by unfold zeroS; rw [varsN_con, varsN_mul, varsN_hint]; omega
/-- What zero adds, and what it gives. -/
theorem Sim.zero {s : SysC} {b : Bd} {t : SysC} {x x' : List T} (h : Sim s b t) (hx : Room t → x' = x ∧ linW (varsN t) x = true) :
  Sim s (zeroB s b x') (zeroS t x) ∧ (Room (zeroS t x) → zeroBZ s b x' = zeroZ t x ∧ linW (varsN (zeroS t x)) (zeroZ t x) = true) := by
 have H1 : Sim s (bHint s b ⟨2, x', [], 0⟩) (sHint t ⟨2, x, [], 0⟩) := h.hint fun r => by
  obtain ⟨rfl, h3⟩ := hx r
  exact ⟨rfl, by unfold hintW; rw [h3, linW_nil]; simp [kindOk]⟩
 have key : Room (sHint t ⟨2, x, [], 0⟩) → bVar s b = sVar t ∧ linW (varsN t + 1) (sVar t) = true := fun r => by
  refine ⟨h.vars r, ?_⟩
  have q := r.1
  rw [varsN_hint] at q
  exact sVar_in (vars_pos (h.ok r.hint)) q
 obtain ⟨M1, M2⟩ := H1.mul (x := x) (x' := x') (y := sVar t) (y' := bVar s b) (fun r => by
  obtain ⟨rfl, h3⟩ := hx r.hint
  exact ⟨rfl, by rw [varsN_hint]; exact linW_mono h3 (by omega)⟩) (fun r => ⟨(key r).1, by rw [varsN_hint]; exact (key r).2⟩)
 have Z : Room (mulS (sHint t ⟨2, x, [], 0⟩) x (sVar t)) → zeroBZ s b x' = zeroZ t x ∧ linW (varsN (mulS (sHint t ⟨2, x, [], 0⟩) x (sVar t))) (zeroZ t x) = true := fun r => by
  obtain ⟨e, h5⟩ := M2 r
  have rh : Room (sHint t ⟨2, x, [], 0⟩) := Room.hint (Room.con r)
  obtain ⟨rfl, h3⟩ := hx rh.hint
  have hc : linW (varsN (mulS (sHint t ⟨2, x', [], 0⟩) x' (sVar t))) (constOf 1) = true := linW_const (by rw [varsN_mul, varsN_hint]; have := vars_pos (h.ok rh.hint); omega)
  unfold zeroBZ zeroZ
  rw [e]
  exact ⟨lcomb_mrg hc h5, linW_mrg hc h5⟩
 refine ⟨M1.con fun r => ?_, fun r => Z (Room.con r)⟩
 obtain ⟨e, h5⟩ := Z r
 obtain ⟨rfl, h3⟩ := hx (Room.hint (Room.hint (Room.con r)))
 refine ⟨by rw [e], ?_⟩
 unfold conW
 rw [h5, linW_nil, linW_mono h3 (by rw [varsN_mul, varsN_hint]; omega)]
 rfl
theorem addZero_answers (s : SysC) (x : List T) :
  (mayL s [x] && bOk (zeroB s ⟨[], [], 0⟩ x)) = (mayL s [x] && sysOk (zeroS s x)) ∧
  (if mayL s [x] = true then bSys s (zeroB s ⟨[], [], 0⟩ x) else sys0) = (if mayL s [x] = true then (if sysOk (zeroS s x) = true then zeroS s x else s) else sys0) ∧
  (if (mayL s [x] && bOk (zeroB s ⟨[], [], 0⟩ x)) = true then zeroBZ s ⟨[], [], 0⟩ x else []) = (if (mayL s [x] && sysOk (zeroS s x)) = true then zeroZ s x else []) :=
 answers3 fun hm => by
  obtain ⟨hs, hl⟩ := mayL_in hm
  have hx := hl x (by simp)
  obtain ⟨h1, h2⟩ := (Sim.start hs).zero (x := x) (x' := x) (fun _ => ⟨rfl, hx⟩)
  exact ⟨h1, fun r => (h2 r).1⟩
end Go.Proofs.YtcenijdaacbgpaaGreat.L
