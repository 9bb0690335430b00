/- B15: MGate MMul Same4 -/
import Derived.Test.YtcenijdaacbgpaaB14
import Derived.Test.YtcenijdaacbgpaaB8
import Derived.Test.YtcenijdaacbgpaaB11
import Derived.Test.YtcenijdaacbgpaaB12
import Derived.Test.YtcenijdaacbgpaaB7
set_option linter.unusedVariables false
set_option linter.unusedSimpArgs false
/- The model's l4hint and l4con (written by tools/gen/mgate.py). -/
namespace Go.Proofs.Ytcenijdaacbgpaa.L
open Go.RowKit Go.Proofs.Ytcenijdaacbgpaa.S
set_option linter.unusedVariables false
set_option linter.unusedSimpArgs false

def RetM (base g : Nat) (t : SysC) (ts : List T) (Q A G : Nat → Prop) (w : World) (e : Ending) (w' : World) : Prop :=
  ∃ u Q' A', e = .returned (.agg #[u]) ∧ Mdl base g t Q' A' w' ∧ NewL w.heap.size Q' w' u ts ∧ Ext Q Q' w w' ∧ (∀ k, A' k → A k ∨ G k ∨ w.heap.size ≤ k)
theorem RetM.of {base g : Nat} {t t' : SysC} {ts ts' : List T} {Q A G Q' A' : Nat → Prop} {w w' : World} {u : Value} (e1 : t' = t) (e2 : ts' = ts) (h1 : Mdl base g t Q' A' w') (h2 : NewL w.heap.size Q' w' u ts) (h3 : Ext Q Q' w w') (h4 : ∀ k, A' k → A k ∨ G k ∨ w.heap.size ≤ k) : RetM base g t' ts' Q A G w (.returned (.agg #[u])) w' := by
  subst e1 e2; exact ⟨u, Q', A', rfl, h1, h2, h3, h4⟩
def RetC (base g : Nat) (t : SysC) (Q A G : Nat → Prop) (w : World) (e : Ending) (w' : World) : Prop :=
  ∃ Q' A', e = .returned (.tuple #[]) ∧ Mdl base g t Q' A' w' ∧ Ext Q Q' w w' ∧ (∀ k, A' k → A k ∨ G k ∨ w.heap.size ≤ k)
theorem RetC.of {base g : Nat} {t t' : SysC} {Q A G Q' A' : Nat → Prop} {w w' : World} (e1 : t' = t) (h1 : Mdl base g t Q' A' w') (h3 : Ext Q Q' w w') (h4 : ∀ k, A' k → A k ∨ G k ∨ w.heap.size ≤ k) : RetC base g t' Q A G w (.returned (.tuple #[])) w' := by
  subst e1; exact ⟨Q', A', rfl, h1, h3, h4⟩

end Go.Proofs.Ytcenijdaacbgpaa.L

/- The model's l4mul and AddMul. -/
namespace Go.Proofs.Ytcenijdaacbgpaa.L
open Go.RowKit Go.Proofs.Ytcenijdaacbgpaa.S
set_option linter.unusedVariables false
theorem OwnS.agree4 {lo : Nat} {w w' : World} {ui uo uh uc : Value} {s : SysC} (own : OwnS lo w.heap.size w ui uo uh uc s) (b : Below w.heap.size w w') : OwnS lo w.heap.size w' ui uo uh uc s := by
  obtain ⟨e, fi, m1, m2, p1, p2, p3, O0, O1, O2⟩ := own
  exact ⟨e, fi, m1, m2, p1, p2, p3, O0.keep b (by omega), O1.keep b (by omega), O2.keep b (Nat.le_refl _)⟩
theorem mayL_ok' {s : SysC} {ls : List (List T)} (h : mayL s ls = true) : sysOk s = true := by unfold mayL at h; exact (Bool.and_eq_true _ _ ▸ h).1
theorem GrowF.low {α : Type} {E : FShape α} {e : TypeId} {o : Bool} {base base' : Nat} {R F : Nat → Prop} {w : World} {v : Value} {xs : List α} (g : GrowF E e o base R F w v xs) (h : base' ≤ base) : GrowF E e o base' R F w v xs := by
  obtain ⟨css, G, ⟨a1, a2⟩, h2, h3, h4, h5, h6⟩ := g
  refine ⟨css, G, ⟨a1, ?_⟩, h2, h3, h4, h5, h6⟩
  rcases a2 with a2 | ⟨b, cap, cur, e1, e2, e3⟩
  · exact .inl a2
  · exact .inr ⟨b, cap, cur, e1, by omega, e3⟩
theorem Mdl.start {lo hi g : Nat} {w : World} {ui uo uh uc : Value} {s : SysC} (own : OwnS lo hi w ui uo uh uc s) (hg : hi ≤ g) (lg : g < w.heap.size) (bx : Box4 w g ui uo uh uc) (fr : Free4 w g) :
    ∃ Q, Mdl lo g s Q (fun k => lo ≤ k ∧ k < hi ∧ ¬ Q k) w ∧ (∀ k, Q k → lo ≤ k) := by
  obtain ⟨rfl, fi, m1, m2, p1, p2, p3, O0, O1, O2⟩ := own
  obtain ⟨R1, F1, G1, a1, a2, a3⟩ := O1.grow
  obtain ⟨R2, F2, G2, b1, b2, b3⟩ := O2.grow
  refine ⟨fun k => k = g ∨ R1 k ∨ R2 k, ⟨.inl rfl, fun k q => ?_, fi, fr, _, _, _, bx, R1, F1, R2, F2, fun k => lo ≤ k ∧ k < m1, O0.rowF (by omega), (G1.unown hint_unown).low p1, (G2.unown con_unown).low (by omega), fun k q => ⟨.inr (.inl q), by have := a1 k q; omega⟩, fun k q => ⟨.inr (.inr q), by have := b1 k q; omega, fun r => by have := a1 k r; have := b1 k q; omega⟩, fun k q => ?_, fun k q => ⟨by have := q.2.1; omega, q.2.2⟩⟩, fun k q => ?_⟩
  · rcases q with q | q | q
    · omega
    · have := a1 k q; omega
    · have := b1 k q; omega
  · rcases q with q | q | q
    · have h := a2 k q
      exact ⟨by omega, by omega, fun r => by rcases r with r | r | r; omega; exact a3 k r q; have := b1 k r; omega⟩
    · have h := b2 k q
      exact ⟨by omega, by omega, fun r => by rcases r with r | r | r; omega; have := a1 k r; omega; exact b3 k r q⟩
    · exact ⟨q.1, by have := q.2; omega, fun r => by rcases r with r | r | r; have := q.2; omega; have := a1 k r; have := q.2; omega; have := b1 k r; have := q.2; omega⟩
  · rcases q with q | q | q
    · omega
    · have := a1 k q; omega
    · have := b1 k q; omega
theorem small_mul {s : SysC} {x y : List T} (sm : Small s) (hk : sysOk s = true) (nx : x.length ≤ 1048576) (ny : y.length ≤ 1048576) : Small (mulS s x y) := by
  have lim := limB_facts (sysOk_limB hk)
  obtain ⟨a1, a2, a3, a4, a5, a6⟩ := sm
  refine ⟨a1, ?_, ?_, a4, fun h hh => ?_, fun c hc => ?_⟩
  · show (s.hints ++ [_]).length ≤ _
    simp; omega
  · show (s.cons ++ [_]).length ≤ _
    simp; omega
  · rcases List.mem_append.1 (show h ∈ s.hints ++ [⟨0, x, y, 0⟩] from hh) with h1 | h1
    · exact a5 h h1
    · rw [List.mem_singleton] at h1; subst h1; exact ⟨nx, ny⟩
  · rcases List.mem_append.1 (show c ∈ s.cons ++ [⟨x, y, sVar s⟩] from hc) with h1 | h1
    · exact a6 c h1
    · rw [List.mem_singleton] at h1; subst h1; exact ⟨nx, ny, by simp [sVar]⟩

end Go.Proofs.Ytcenijdaacbgpaa.L

/- What the builder adds and what the model adds are the same: AddMul, AddBool, AddEq. -/
namespace Go.Proofs.Ytcenijdaacbgpaa.L
open Go.RowKit Go.Proofs.Ytcenijdaacbgpaa.S
set_option linter.unusedVariables false
set_option linter.unusedSimpArgs false

theorem mayL_in {s : SysC} {ls : List (List T)} (h : mayL s ls = true) : sysOk s = true ∧ ∀ x ∈ ls, linW (varsN s) x = true := by
  unfold mayL at h
  rw [Bool.and_eq_true, List.all_eq_true] at h
  exact h
theorem linW_var {v : Int} (h0 : 0 ≤ v) (h1 : v + 1 ≤ 3000) : linW (v + 1) [(v, 1)] = true := by
  unfold linW linOk okFrom
  simp [okFrom]
  omega
theorem addMul_same {s : SysC} {x y : List T} (hm : mayL s [x, y] = true) :
    bOk (mulB s ⟨[], [], 0⟩ x y) = sysOk (mulS s x y) ∧ bSys s (mulB s ⟨[], [], 0⟩ x y) = (if sysOk (mulS s x y) = true then mulS s x y else s) ∧ (sysOk (mulS s x y) = true → bVar s ⟨[], [], 0⟩ = sVar s) := by
  obtain ⟨hs, hl⟩ := mayL_in hm
  have hx := hl x (by simp)
  have hy := hl y (by simp)
  have lim := limB_facts (sysOk_limB hs)
  have S0 := Sim.start hs
  have S1 : Sim s (bHint s ⟨[], [], 0⟩ ⟨0, x, y, 0⟩) (sHint s ⟨0, x, y, 0⟩) := S0.hint fun _ => ⟨rfl, by unfold hintW; rw [hx, hy]; simp [kindOk]⟩
  have S2 : Sim s (mulB s ⟨[], [], 0⟩ x y) (mulS s x y) := S1.con fun r => by
    refine ⟨by rw [S0.vars r], ?_⟩
    have hv : varsN (sHint s ⟨0, x, y, 0⟩) = varsN s + 1 := varsN_hint _ _
    have q := r.1
    rw [hv] at q
    unfold conW
    rw [hv, linW_mono hx (by omega), linW_mono hy (by omega), show linW (varsN s + 1) (sVar s) = true from linW_var (by unfold varsN; omega) q]
    rfl
  obtain ⟨d1, d2, d3⟩ := S2.done hs
  refine ⟨d1, ?_, fun h => S0.vars (Room.con (d2 h).2)⟩
  cases hk : sysOk (mulS s x y)
  · rw [d3 hk]; rfl
  · rw [(d2 hk).1]; rfl
/-- The three answers, as the program gives them and as the model does. -/
theorem addMul_answers (s : SysC) (x y : List T) :
    (mayL s [x, y] && bOk (mulB s ⟨[], [], 0⟩ x y)) = (mayL s [x, y] && sysOk (mulS s x y)) ∧
    (if mayL s [x, y] = true then bSys s (mulB s ⟨[], [], 0⟩ x y) else sys0) = (if mayL s [x, y] = true then (if sysOk (mulS s x y) = true then mulS s x y else s) else sys0) ∧
    (if (mayL s [x, y] && bOk (mulB s ⟨[], [], 0⟩ x y)) = true then bVar s ⟨[], [], 0⟩ else []) = (if (mayL s [x, y] && sysOk (mulS s x y)) = true then sVar s else []) := by
  cases hm : mayL s [x, y]
  · simp
  · obtain ⟨h1, h2, h3⟩ := addMul_same hm
    refine ⟨by rw [h1], by rw [if_pos rfl, if_pos rfl, h2], ?_⟩
    rw [h1]
    cases hk : sysOk (mulS s x y)
    · rfl
    · simp [h3 hk]
end Go.Proofs.Ytcenijdaacbgpaa.L
