/- B28: Same5 Same5b -/
import Derived.Test.YtcenijdaacbgpaaB15
import Derived.Test.YtcenijdaacbgpaaB17
import Derived.Test.YtcenijdaacbgpaaB24
set_option linter.unusedVariables false
set_option linter.unusedSimpArgs false
/- What the builder adds and what the model adds are the same: AddEq, AddBool, AddMux, AddXor. -/
namespace Go.Proofs.Ytcenijdaacbgpaa.L
open Go.RowKit Go.Proofs.Ytcenijdaacbgpaa.S
set_option linter.unusedVariables false
set_option linter.unusedSimpArgs false

theorem linW_iff {n : Int} {x : List T} : linW n x = true ↔ linOk x = true ∧ ∀ t ∈ x, t.1 < n := by unfold linW; simp
theorem linW_mrg {n k : Int} {x y : List T} (hx : linW n x = true) (hy : linW n y = true) : linW n (mrg k x y) = true := by
  obtain ⟨h1, h2⟩ := linW_iff.1 hx
  obtain ⟨h3, h4⟩ := linW_iff.1 hy
  refine linW_iff.2 ⟨linOk_mrg h1 h3, fun t ht => ?_⟩
  rcases (mrg_mem k x y (.of_ok h1) t ht).1 with ⟨u, hu, e⟩ | ⟨u, hu, e⟩
  · rw [← e]; exact h2 u hu
  · rw [← e]; exact h4 u hu
theorem linW_const {n k : Int} (hn : 1 ≤ n) : linW n (constOf k) = true := by
  unfold constOf
  split
  · rfl
  · next h =>
    refine linW_iff.2 ⟨?_, fun t ht => by rw [List.mem_singleton] at ht; subst ht; show (0 : Int) < n; omega⟩
    unfold linOk okFrom
    simp [okFrom]
    omega
theorem lcomb_mrg {n k : Int} {x y : List T} (hx : linW n x = true) (hy : linW n y = true) : lcomb k x y = mrg k x y := by
  unfold lcomb; rw [(linW_iff.1 hx).1, (linW_iff.1 hy).1]; rfl
theorem vars_pos {s : SysC} (h : sysOk s = true) : 1 ≤ varsN s := by have := (limB_facts (sysOk_limB h)).1; unfold varsN; omega
theorem Sim.ok {s : SysC} {b : Bd} {t : SysC} (h : Sim s b t) (r : Room t) : sysOk t = true := by
  obtain ⟨H, C, rfl, h1, h2, h3, h4⟩ := h; exact (h4 r).2.2
theorem sVar_in {t : SysC} (h0 : 1 ≤ varsN t) (r : varsN t + 1 ≤ 3000) : linW (varsN t + 1) (sVar t) = true := linW_var (by omega) r
theorem varsN_mul (t : SysC) (x y : List T) : varsN (mulS t x y) = varsN t + 1 := by unfold mulS; rw [varsN_con, varsN_hint]
theorem Sim.mul {s : SysC} {b : Bd} {t : SysC} {x x' y y' : List T} (h : Sim s b t) (hx : Room t → x' = x ∧ linW (varsN t) x = true) (hy : Room t → y' = y ∧ linW (varsN t) y = true) :
    Sim s (mulB s b x' y') (mulS t x y) ∧ (Room (mulS t x y) → bVar s b = sVar t ∧ linW (varsN (mulS t x y)) (sVar t) = true) := by
  have h2 : Sim s (bHint s b ⟨0, x', y', 0⟩) (sHint t ⟨0, x, y, 0⟩) := h.hint fun r => by
    obtain ⟨rfl, h3⟩ := hx r
    obtain ⟨rfl, h4⟩ := hy r
    exact ⟨rfl, by unfold hintW; rw [h3, h4]; simp [kindOk]⟩
  have key : Room (sHint t ⟨0, x, y, 0⟩) → bVar s b = sVar t ∧ linW (varsN t + 1) (sVar t) = true := fun r => by
    refine ⟨h.vars r, ?_⟩
    have q := r.1
    rw [varsN_hint] at q
    exact sVar_in (vars_pos (h.ok r.hint)) q
  refine ⟨h2.con fun r => ?_, fun r => ?_⟩
  · obtain ⟨rfl, h3⟩ := hx r.hint
    obtain ⟨rfl, h4⟩ := hy r.hint
    obtain ⟨e, h5⟩ := key r
    refine ⟨by rw [e], ?_⟩
    unfold conW
    rw [varsN_hint, linW_mono h3 (by omega), linW_mono h4 (by omega), h5]
    rfl
  · have := key (Room.con r)
    exact ⟨this.1, by rw [varsN_mul]; exact this.2⟩
/-- The three answers, as the program gives them and as the model does. -/
theorem answers3 {s : SysC} {ls : List (List T)} {bd : Bd} {t : SysC} {rv v : List T} (h : mayL s ls = true → Sim s bd t ∧ (Room t → rv = v)) :
    (mayL s ls && bOk bd) = (mayL s ls && sysOk t) ∧
    (if mayL s ls = true then bSys s bd else sys0) = (if mayL s ls = true then (if sysOk t = true then t else s) else sys0) ∧
    (if (mayL s ls && bOk bd) = true then rv else []) = (if (mayL s ls && sysOk t) = true then v else []) := by
  cases hm : mayL s ls
  · simp
  · obtain ⟨S, hv⟩ := h hm
    obtain ⟨d1, d2, d3⟩ := S.done (mayL_in hm).1
    refine ⟨by rw [d1], ?_, ?_⟩
    · rw [if_pos rfl, if_pos rfl]
      cases hk : sysOk t
      · rw [d3 hk]; rfl
      · rw [(d2 hk).1]; rfl
    · rw [d1]
      cases hk : sysOk t
      · rfl
      · simp [hv (d2 hk).2]
theorem answers2 {s : SysC} {ls : List (List T)} {bd : Bd} {t : SysC} (h : mayL s ls = true → Sim s bd t) :
    (mayL s ls && bOk bd) = (mayL s ls && sysOk t) ∧ (if mayL s ls = true then bSys s bd else sys0) = (if mayL s ls = true then (if sysOk t = true then t else s) else sys0) := by
  have := answers3 (rv := []) (v := []) (fun hm => ⟨h hm, fun _ => rfl⟩)
  exact ⟨this.1, this.2.1⟩

theorem addEq_answers (s : SysC) (x y : List T) :
    (mayL s [x, y] && bOk (eqB s ⟨[], [], 0⟩ x y)) = (mayL s [x, y] && sysOk (eqS s x y)) ∧ (if mayL s [x, y] = true then bSys s (eqB s ⟨[], [], 0⟩ x y) else sys0) = (if mayL s [x, y] = true then (if sysOk (eqS s x y) = true then eqS s x y else s) else sys0) :=
  answers2 fun hm => by
    obtain ⟨hs, hl⟩ := mayL_in hm
    have hx := hl x (by simp)
    have hy := hl y (by simp)
    exact (Sim.start hs).con fun r => ⟨by rw [lcomb_mrg hx hy], by unfold conW; rw [linW_mrg hx hy, linW_const (vars_pos hs), linW_nil]; rfl⟩
theorem addBool_answers (s : SysC) (x : List T) :
    (mayL s [x] && bOk (boolB s ⟨[], [], 0⟩ x)) = (mayL s [x] && sysOk (boolS s x)) ∧ (if mayL s [x] = true then bSys s (boolB s ⟨[], [], 0⟩ x) else sys0) = (if mayL s [x] = true then (if sysOk (boolS s x) = true then boolS s x else s) else sys0) :=
  answers2 fun hm => by
    obtain ⟨hs, hl⟩ := mayL_in hm
    have hx := hl x (by simp)
    have hc := linW_const (k := 1) (vars_pos hs)
    exact (Sim.start hs).con fun r => ⟨by rw [lcomb_mrg hx hc], by unfold conW; rw [hx, linW_mrg hx hc, linW_nil]; rfl⟩
end Go.Proofs.Ytcenijdaacbgpaa.L

/- What the builder adds and what the model adds are the same: the bits of a number. -/
namespace Go.Proofs.Ytcenijdaacbgpaa.L
open Go.RowKit Go.Proofs.Ytcenijdaacbgpaa.S
set_option linter.unusedVariables false
set_option linter.unusedSimpArgs false

theorem bitsK_vars (t : SysC) (x : List T) (k : Nat) : varsN (bitsK t x k).1 = varsN t + k := by
  induction k with
  | zero => simp [bitsK]
  | succ k ih => simp only [bitsK, boolS]; rw [varsN_con, varsN_hint, ih]; omega
theorem bitsK_len (t : SysC) (x : List T) (k : Nat) : (bitsK t x k).2.length = k := by
  induction k with
  | zero => rfl
  | succ k ih => simp only [bitsK, List.length_append, ih]; rfl
theorem bitsBK_len (s : SysC) (b : Bd) (x : List T) (k : Nat) : (bitsBK s b x k).2.length = k := by
  induction k with
  | zero => rfl
  | succ k ih => simp only [bitsBK, List.length_append, ih]; rfl
theorem bitsBK_n (s : SysC) (b : Bd) (x : List T) (k : Nat) : (bitsBK s b x k).1.n = b.n + 2 * k := by
  induction k with
  | zero => rfl
  | succ k ih => simp only [bitsBK, boolB, bCon, bHint, ih]; omega
theorem bitsK_one (t : SysC) (x : List T) (k : Nat) : ∀ y ∈ (bitsK t x k).2, y.length = 1 := by
  induction k with
  | zero => intro y hy; cases hy
  | succ k ih =>
    intro y hy
    simp only [bitsK, List.mem_append, List.mem_singleton] at hy
    rcases hy with hy | rfl
    · exact ih y hy
    · rfl
theorem bitsBK_one (s : SysC) (b : Bd) (x : List T) (k : Nat) : ∀ y ∈ (bitsBK s b x k).2, y.length ≤ 1 := by
  induction k with
  | zero => intro y hy; cases hy
  | succ k ih =>
    intro y hy
    simp only [bitsBK, List.mem_append, List.mem_singleton] at hy
    rcases hy with hy | rfl
    · exact ih y hy
    · exact varOf_len _
theorem Sim.bitsK {s : SysC} {b : Bd} {t : SysC} {x x' : List T} (h : Sim s b t) (hx : Room t → x' = x ∧ linW (varsN t) x = true) (k : Nat) (hk : k ≤ 30) :
    Sim s (bitsBK s b x' k).1 (L.bitsK t x k).1 ∧ (Room (L.bitsK t x k).1 → Room t ∧ (bitsBK s b x' k).2 = (L.bitsK t x k).2 ∧ ∀ y ∈ (L.bitsK t x k).2, linW (varsN t + k) y = true) := by
  induction k with
  | zero => exact ⟨h, fun r => ⟨r, rfl, fun y hy => by cases hy⟩⟩
  | succ k ih =>
    obtain ⟨S1, S2⟩ := ih (by omega)
    have hv := bitsK_vars t x k
    have H1 : Sim s (bHint s (bitsBK s b x' k).1 ⟨1, x', [], k⟩) (sHint (L.bitsK t x k).1 ⟨1, x, [], k⟩) := S1.hint fun r => by
      obtain ⟨r0, -, -⟩ := S2 r
      obtain ⟨rfl, h3⟩ := hx r0
      refine ⟨rfl, ?_⟩
      unfold hintW
      rw [hv, linW_mono h3 (by omega), linW_nil]
      simp [kindOk]; omega
    have key : Room (sHint (L.bitsK t x k).1 ⟨1, x, [], k⟩) → bVar s (bitsBK s b x' k).1 = sVar (L.bitsK t x k).1 ∧ linW (varsN t + (k + 1 : Nat)) (sVar (L.bitsK t x k).1) = true := fun r => by
      refine ⟨S1.vars r, ?_⟩
      have q := r.1
      rw [varsN_hint] at q
      have := sVar_in (vars_pos (S1.ok r.hint)) q
      rw [hv] at this
      rwa [show varsN t + ((k + 1 : Nat) : Int) = varsN t + k + 1 from by omega]
    refine ⟨H1.con fun r => ?_, fun r => ?_⟩
    · obtain ⟨e, h5⟩ := key r
      have hc : linW (varsN t + (k + 1 : Nat)) (constOf 1) = true := linW_const (by have := vars_pos (S1.ok r.hint); rw [hv] at this; omega)
      refine ⟨by rw [e, lcomb_mrg h5 hc], ?_⟩
      unfold conW
      rw [varsN_hint, hv, show varsN t + k + 1 = varsN t + ((k + 1 : Nat) : Int) from by omega, h5, linW_mrg h5 hc, linW_nil]
      rfl
    · have rh : Room (sHint (L.bitsK t x k).1 ⟨1, x, [], k⟩) := Room.con r
      obtain ⟨e, h5⟩ := key rh
      obtain ⟨r0, el, hl⟩ := S2 rh.hint
      refine ⟨r0, by simp only [bitsBK, L.bitsK]; rw [el, e], fun y hy => ?_⟩
      simp only [L.bitsK, List.mem_append, List.mem_singleton] at hy
      rcases hy with hy | rfl
      · exact linW_mono (hl y hy) (by omega)
      · exact h5
theorem packF_in {n : Int} : ∀ (ls : List (List T)) (i : Nat) (acc : List T), linW n acc = true → (∀ y ∈ ls, linW n y = true) → linW n (packF mrg i acc ls) = true := by
  intro ls
  induction ls with
  | nil => intro i acc h _; exact h
  | cons b r ih => intro i acc h hb; exact ih (i + 1) _ (linW_mrg h (hb b (by simp))) (fun y hy => hb y (by simp [hy]))
/-- The bits: what is added, and what they are. -/
theorem Sim.bits {s : SysC} {b : Bd} {t : SysC} {x x' : List T} (h : Sim s b t) (hx : Room t → x' = x ∧ linW (varsN t) x = true) (n : Nat) (hn : n ≤ 30) :
    Sim s (bitsB s b x' n) (bitsS t x n) ∧ (Room (bitsS t x n) → (bitsBK s b x' n).2 = (L.bitsK t x n).2 ∧ ∀ y ∈ (L.bitsK t x n).2, linW (varsN (bitsS t x n)) y = true) := by
  obtain ⟨S1, S2⟩ := h.bitsK hx n hn
  have hv := bitsK_vars t x n
  refine ⟨S1.con fun r => ?_, fun r => ?_⟩
  · obtain ⟨r0, el, hl⟩ := S2 r
    obtain ⟨rfl, h3⟩ := hx r0
    have hx2 : linW (varsN t + n) x' = true := linW_mono h3 (by omega)
    have hp : packOk (L.bitsK t x' n).2 = true := by
      unfold packOk
      rw [bitsK_len, decide_eq_true hn, Bool.true_and, List.all_eq_true]
      exact fun y hy => (linW_iff.1 (hl y hy)).1
    have e : packL (bitsBK s b x' n).2 = packS (L.bitsK t x' n).2 := by rw [el]; unfold packL; rw [hp]; rfl
    have hS : linW (varsN t + n) (packS (L.bitsK t x' n).2) = true := packF_in _ 0 [] (linW_nil _) hl
    have hc : linW (varsN t + n) (constOf 1) = true := linW_const (by have := vars_pos (h.ok r0); omega)
    refine ⟨by rw [e, lcomb_mrg hS hx2], ?_⟩
    unfold conW
    rw [hv, linW_mrg hS hx2, hc, linW_nil]
    rfl
  · obtain ⟨r0, el, hl⟩ := S2 (Room.con r)
    refine ⟨el, fun y hy => ?_⟩
    unfold bitsS eqS
    rw [varsN_con, hv]
    exact hl y hy
end Go.Proofs.Ytcenijdaacbgpaa.L
