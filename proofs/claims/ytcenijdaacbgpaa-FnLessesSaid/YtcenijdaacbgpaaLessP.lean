/- What the builder adds and what the model adds are the same: less. -/
import Derived.Test.YtcenijdaacbgpaaB28
namespace Go.Proofs.Ytcenijdaacbgpaa.L
open Go.RowKit Go.Proofs.Ytcenijdaacbgpaa.S
set_option linter.unusedVariables false
set_option linter.unusedSimpArgs false

theorem getD_mem {α : Type} {l : List α} {n : Nat} {z : α} (h : n < l.length) : l.getD n z ∈ l := by
  rw [List.getD_eq_getElem?_getD, List.getElem?_eq_getElem h]; exact List.getElem_mem h
theorem answersM {s : SysC} {bd : Bd} {t : SysC} {rv v : List T} {m : Bool} (h : m = true → sysOk s = true ∧ Sim s bd t ∧ (Room t → rv = v)) :
    (m && bOk bd) = (m && sysOk t) ∧ (if m = true then bSys s bd else sys0) = (if m = true then (if sysOk t = true then t else s) else sys0) ∧
    (if (m && bOk bd) = true then rv else []) = (if (m && sysOk t) = true then v else []) := by
  cases m
  · simp
  · obtain ⟨hs, S, hv⟩ := h rfl
    obtain ⟨d1, d2, d3⟩ := S.done hs
    refine ⟨by rw [d1], ?_, ?_⟩
    · rw [if_pos rfl, if_pos rfl]
      cases hk : sysOk t
      · rw [d3 hk]; rfl
      · rw [(d2 hk).1]; rfl
    · rw [d1]
      cases hk : sysOk t
      · rfl
      · simp [hv (d2 hk).2]
theorem Sim.less {s : SysC} {b : Bd} {t : SysC} {x x' y y' : List T} (h : Sim s b t) (hx : Room t → x' = x ∧ linW (varsN t) x = true) (hy : Room t → y' = y ∧ linW (varsN t) y = true) (n : Nat) (hn : n ≤ 29) :
    Sim s (lessB s b x' y' n) (lessS t x y n) ∧ (Room (lessS t x y n) → lessBZ s b x' y' n = lessZ t x y n ∧ linW (varsN (lessS t x y n)) (lessZ t x y n) = true) := by
  obtain ⟨S1, S2⟩ := h.bits (x := lessD x y n) (x' := lessBD x' y' n) (fun r => by
    obtain ⟨rfl, h3⟩ := hx r
    obtain ⟨rfl, h4⟩ := hy r
    have hc : linW (varsN t) (constOf ((2 : Int) ^ n)) = true := linW_const (vars_pos (h.ok r))
    have hm : linW (varsN t) (mrg 2147483646 x' y') = true := linW_mrg h3 h4
    unfold lessBD lessD
    rw [lcomb_mrg h3 h4, lcomb_mrg hm hc]
    exact ⟨rfl, linW_mrg hm hc⟩) (n + 1) (by omega)
  refine ⟨S1, fun r => ?_⟩
  obtain ⟨e, hl⟩ := S2 r
  have hb := hl _ (getD_mem (z := []) (show n < (L.bitsK t (lessD x y n) (n + 1)).2.length by rw [bitsK_len]; omega))
  have hp : 1 ≤ varsN (bitsS t (lessD x y n) (n + 1)) := vars_pos (S1.ok r)
  have hc : linW (varsN (bitsS t (lessD x y n) (n + 1))) (constOf 1) = true := linW_const hp
  unfold lessBZ lessZ
  rw [e, lcomb_mrg hc hb]
  exact ⟨rfl, linW_mrg hc hb⟩
theorem addLess_answers (s : SysC) (x y : List T) (q : Int) (n : Nat) (hn : 1 ≤ q ∧ q ≤ 29 → q = (n : Int) ∧ n ≤ 29) (m : Bool) (hm : m = (decide (1 ≤ q ∧ q ≤ 29) && mayL s [x, y])) :
    (m && bOk (lessB s ⟨[], [], 0⟩ x y n)) = (m && sysOk (lessS s x y n)) ∧
    (if m = true then bSys s (lessB s ⟨[], [], 0⟩ x y n) else sys0) = (if m = true then (if sysOk (lessS s x y n) = true then lessS s x y n else s) else sys0) ∧
    (if (m && bOk (lessB s ⟨[], [], 0⟩ x y n)) = true then lessBZ s ⟨[], [], 0⟩ x y n else []) = (if (m && sysOk (lessS s x y n)) = true then lessZ s x y n else []) :=
  answersM fun e => by
    rw [e] at hm
    have hm' := hm.symm
    rw [Bool.and_eq_true] at hm'
    obtain ⟨e1, e2⟩ := hm'
    obtain ⟨-, hn2⟩ := hn (of_decide_eq_true e1)
    obtain ⟨hs, hl⟩ := mayL_in e2
    obtain ⟨S, S2⟩ := (Sim.start hs).less (x := x) (x' := x) (y := y) (y' := y) (fun _ => ⟨rfl, hl x (by simp)⟩) (fun _ => ⟨rfl, hl y (by simp)⟩) n hn2
    exact ⟨hs, S, fun r => (S2 r).1⟩
end Go.Proofs.Ytcenijdaacbgpaa.L
