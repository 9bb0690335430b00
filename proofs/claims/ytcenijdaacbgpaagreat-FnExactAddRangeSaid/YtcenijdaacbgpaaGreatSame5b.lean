/- What the builder adds and what the model adds are the same: the bits of a number. -/
import Derived.Test.YtcenijdaacbgpaaGreatSame5
import Derived.Test.YtcenijdaacbgpaaGreatPack
namespace Go.Proofs.YtcenijdaacbgpaaGreat.L
open Go.RowKit Go.Proofs.YtcenijdaacbgpaaGreat.S
set_option linter.unusedVariables false
set_option linter.unusedSimpArgs false

theorem bitsK_vars (t : SysC) (x : List T) (k : Nat) : varsN (bitsK t x k).1 = varsN t + k := by
 induction k with
 | zero => simp [bitsK]
 | succ k ih => simp only [bitsK, boolS]; rw [varsN_con, varsN_hint, ih]; omega
theorem bitsK_len (t : SysC) (x : List T) (k : Nat) : (bitsK t x k).2.length = k := by
 induction k with
 | zero => rfl
 | succ k ih => simp only [bitsK, List.length_append, ih]; rfl
theorem bitsBK_len (s : SysC) (b : Bd) (x : List T) (k : Nat) : (bitsBK s b x k).2.length = k := by
 induction k with
 | zero => rfl
 | succ k ih => simp only [bitsBK, List.length_append, ih]; rfl
theorem bitsBK_n (s : SysC) (b : Bd) (x : List T) (k : Nat) : (bitsBK s b x k).1.n = b.n + 2 * k := by
 induction k with
 | zero => rfl
 | succ k ih => simp only [bitsBK, boolB, bCon, bHint, ih]; omega
theorem bitsK_one (t : SysC) (x : List T) (k : Nat) : ∀ y ∈ (bitsK t x k).2, y.length = 1 := by
 induction k with
 | zero => intro y hy; cases hy
 | succ k ih =>
  intro y hy
  simp only [bitsK, List.mem_append, List.mem_singleton] at hy
  rcases hy with hy | rfl
  ·exact ih y hy
  ·rfl
theorem bitsBK_one (s : SysC) (b : Bd) (x : List T) (k : Nat) : ∀ y ∈ (bitsBK s b x k).2, y.length ≤ 1 := by
 induction k with
 | zero => intro y hy; cases hy
 | succ k ih =>
  intro y hy
  simp only [bitsBK, List.mem_append, List.mem_singleton] at hy
  rcases hy with hy | rfl
  ·exact ih y hy
  ·exact varOf_len _
theorem Sim.bitsK {s : SysC} {b : Bd} {t : SysC} {x x' : List T} (h : Sim s b t) (hx : Room t → x' = x ∧ linW (varsN t) x = true) (k : Nat) (hk : k ≤ 30) :
  Sim s (bitsBK s b x' k).1 (L.bitsK t x k).1 ∧ (Room (L.bitsK t x k).1 → Room t ∧ (bitsBK s b x' k).2 = (L.bitsK t x k).2 ∧ ∀ y ∈ (L.bitsK t x k).2, linW (varsN t + k) y = true) := by
 induction k with
 | zero => exact ⟨h, fun r => ⟨r, rfl, fun y hy => by cases hy⟩⟩
 | succ k ih =>
  obtain ⟨S1, S2⟩ := ih (by omega)
  have hv := bitsK_vars t x k
  have H1 : Sim s (bHint s (bitsBK s b x' k).1 ⟨1, x', [], k⟩) (sHint (L.bitsK t x k).1 ⟨1, x, [], k⟩) := S1.hint fun r => by
   obtain ⟨r0, -, -⟩ := S2 r
   obtain ⟨rfl, h3⟩ := hx r0
   refine ⟨rfl, ?_⟩
   unfold hintW
   rw [hv, linW_mono h3 (by omega), linW_nil]
   simp [kindOk]; omega
  have key : Room (sHint (L.bitsK t x k).1 ⟨1, x, [], k⟩) → bVar s (bitsBK s b x' k).1 = sVar (L.bitsK t x k).1 ∧ linW (varsN t + (k + 1 : Nat)) (sVar (L.bitsK t x k).1) = true := fun r => by
   refine ⟨S1.vars r, ?_⟩
   have q := r.1
   rw [varsN_hint] at q
   have := sVar_in (vars_pos (S1.ok r.hint)) q
   rw [hv] at this
   rwa [show varsN t + ((k + 1 : Nat) : Int) = varsN t + k + 1 from by omega]
  refine ⟨H1.con fun r => ?_, fun r => ?_⟩
  ·obtain ⟨e, h5⟩ := key r
   have hc : linW (varsN t + (k + 1 : Nat)) (constOf 1) = true := linW_const (by have := vars_pos (S1.ok r.hint); rw [hv] at this; omega)
   refine ⟨by rw [e, lcomb_mrg h5 hc], ?_⟩
   unfold conW
   rw [varsN_hint, hv, show varsN t + k + 1 = varsN t + ((k + 1 : Nat) : Int) from by omega, h5, linW_mrg h5 hc, linW_nil]
   rfl
  ·have rh : Room (sHint (L.bitsK t x k).1 ⟨1, x, [], k⟩) := Room.con r
   obtain ⟨e, h5⟩ := key rh
   obtain ⟨r0, el, hl⟩ := S2 rh.hint
   refine ⟨r0, by simp only [bitsBK, L.bitsK]; rw [el, e], fun y hy => ?_⟩
   simp only [L.bitsK, List.mem_append, List.mem_singleton] at hy
   rcases hy with hy | rfl
   ·exact linW_mono (hl y hy) (by omega)
   ·exact h5
theorem packF_in {n : Int} : ∀ (ls : List (List T)) (i : Nat) (acc : List T), linW n acc = true → (∀ y ∈ ls, linW n y = true) → linW n (packF mrg i acc ls) = true := by
 intro ls
 induction ls with
 | nil => intro i acc h _; exact h
 | cons b r ih => intro i acc h hb; exact ih (i + 1) _ (linW_mrg h (hb b (by simp))) (fun y hy => hb y (by simp [hy]))
/-- The bits: what is added, and what they are. -/
theorem Sim.bits {s : SysC} {b : Bd} {t : SysC} {x x' : List T} (h : Sim s b t) (hx : Room t → x' = x ∧ linW (varsN t) x = true) (n : Nat) (hn : n ≤ 30) :
  Sim s (bitsB s b x' n) (bitsS t x n) ∧ (Room (bitsS t x n) → (bitsBK s b x' n).2 = (L.bitsK t x n).2 ∧ ∀ y ∈ (L.bitsK t x n).2, linW (varsN (bitsS t x n)) y = true) := by
 obtain ⟨S1, S2⟩ := h.bitsK hx n hn
 have hv := bitsK_vars t x n
 refine ⟨S1.con fun r => ?_, fun r => ?_⟩
 ·obtain ⟨r0, el, hl⟩ := S2 r
  obtain ⟨rfl, h3⟩ := hx r0
  have hx2 : linW (varsN t + n) x' = true := linW_mono h3 (by omega)
  have hp : packOk (L.bitsK t x' n).2 = true := by
   unfold packOk
   rw [bitsK_len, decide_eq_true hn, Bool.true_and, List.all_eq_true]
   exact fun y hy => (linW_iff.1 (hl y hy)).1
  have e : packL (bitsBK s b x' n).2 = packS (L.bitsK t x' n).2 := by rw [el]; unfold packL; rw [hp]; rfl
  have hS : linW (varsN t + n) (packS (L.bitsK t x' n).2) = true := packF_in _ 0 [] (linW_nil _) hl
  have hc : linW (varsN t + n) (constOf 1) = true := linW_const (by have := vars_pos (h.ok r0); omega)
  refine ⟨by rw [e, lcomb_mrg hS hx2], ?_⟩
  unfold conW
  rw [hv, linW_mrg hS hx2, hc, linW_nil]
  rfl
 ·obtain ⟨r0, el, hl⟩ := S2 (Room.con r)
  refine ⟨el, fun y hy => ?_⟩
  unfold bitsS eqS
  rw [varsN_con, hv]
  exact hl y hy
end Go.Proofs.YtcenijdaacbgpaaGreat.L
