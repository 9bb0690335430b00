/- A drawn region 'x.. := F(copies)' whose answers are a system and a bool. -/
import Derived.Test.YtcenijdaacbgpaaRgn
import Derived.Test.YtcenijdaacbgpaaB19
namespace Go.Proofs.Ytcenijdaacbgpaa.L
open Go.RowKit Go.Proofs.Ytcenijdaacbgpaa.S
set_option linter.unusedVariables false
set_option linter.unusedSimpArgs false

def ResSB (X : World) (r : SysC) (ok : Bool) (dM dV d0 d2 dA dS dZ : Bool) (vM vV v0 v2 pA vZ : Value) (w : World) : Prop :=
  ∃ (ui uo uh uc : Value) (F : Nat → Prop) (gA : Nat),
    ((dV = true → dM = true) ∧ (d0 = true → dV = true) ∧ (d2 = true → dV = true) ∧ (dS = true → d0 = true ∧ dA = true) ∧ (dZ = true → d2 = true)) ∧
    (dM = true → vM = .tuple #[.agg #[ui, uo, uh, uc], .bool ok] ∧ SysF F w ui uo uh uc r ∧ (∀ k, F k → X.heap.size ≤ k)) ∧
    (dV = true → vV = .tuple #[.agg #[ui, uo, uh, uc], .bool ok]) ∧ (d0 = true → v0 = .agg #[ui, uo, uh, uc]) ∧ (d2 = true → v2 = .bool ok) ∧
    (dA = true → BoxS X gA pA w) ∧ (dA = true → dM = true → ¬ F gA) ∧ (dS = true → Box4 w gA ui uo uh uc) ∧
    (dZ = true → vZ = .bool ok)
section
variable {X : World} {r : SysC} {ok : Bool} {dM dV d0 d2 dA dS dZ : Bool} {vM vV v0 v2 pA vZ : Value} {w : World}
theorem ResSB.start : ResSB X r ok false false false false false false false vM vV v0 v2 pA vZ w :=
  ⟨.int .i64 0, .int .i64 0, .int .i64 0, .int .i64 0, fun _ => False, 0, by simp, by simp, by simp, by simp, by simp, by simp, by simp, by simp, by simp⟩
theorem ResSB.keep {w' : World} (h : ResSB X r ok dM dV d0 d2 dA dS dZ vM vV v0 v2 pA vZ w) (hb : Below w.heap.size w w') : ResSB X r ok dM dV d0 d2 dA dS dZ vM vV v0 v2 pA vZ w' := by
  obtain ⟨ui, uo, uh, uc, F, gA, ⟨kV, k0, k2, kS, kZ⟩, hM, hV, h0, h2, hA, hA2, hS, hZ⟩ := h
  refine ⟨ui, uo, uh, uc, F, gA, ⟨kV, k0, k2, kS, kZ⟩, fun q => ?_, hV, h0, h2, fun q => (hA q).keep hb, hA2, fun q => (hS q).keep' hb (hA (kS q).2).2.2.1, hZ⟩
  obtain ⟨e, s, f⟩ := hM q
  exact ⟨e, s.agree (SameF.of_below hb s.lim) hb.size, f⟩
theorem ResSB.main {w' : World} {e : Ending} (h : ResSB X r ok false dV d0 d2 dA dS dZ vM vV v0 v2 pA vZ w) (hx : Below X.heap.size X w) (q : ExtC ok r w e w') :
    ∃ u, e = .returned u ∧ Below w.heap.size w w' ∧ ResSB X r ok true dV d0 d2 dA dS dZ u vV v0 v2 pA vZ w' := by
  obtain ⟨ui', uo', uh', uc', F', rfl, hb, sS, sF⟩ := q
  obtain ⟨ui, uo, uh, uc, F, gA, ⟨kV, k0, k2, kS, kZ⟩, hM, hV, h0, h2, hA, hA2, hS, hZ⟩ := h
  have sz := hx.size
  have nV := no_of kV rfl
  have n0 := no_of k0 nV
  have n2 := no_of k2 nV
  have nS := no_of (fun q => (kS q).1) n0
  have nZ := no_of kZ n2
  refine ⟨_, rfl, hb, ui', uo', uh', uc', F', gA, ⟨fun _ => rfl, k0, k2, kS, kZ⟩, fun _ => ⟨rfl, sS, fun k q => Nat.le_trans sz (sF k q)⟩, vac nV, vac n0, vac n2, fun q => (hA q).keep hb, fun q _ z => ?_, vac nS, vac nZ⟩
  have := (hA q).2.2.1; exact absurd (sF _ z) (by omega)
theorem ResSB.moveD (q : dM = true) (h : ResSB X r ok dM dV d0 d2 dA dS dZ vM vV v0 v2 pA vZ w) : ResSB X r ok dM true d0 d2 dA dS dZ vM vM v0 v2 pA vZ w := by
  subst q
  obtain ⟨ui, uo, uh, uc, F, gA, ⟨kV, k0, k2, kS, kZ⟩, hM, hV, h0, h2, hA, hA2, hS, hZ⟩ := h
  exact ⟨ui, uo, uh, uc, F, gA, ⟨fun _ => rfl, fun _ => rfl, fun _ => rfl, kS, kZ⟩, hM, fun _ => (hM rfl).1, h0, h2, hA, hA2, hS, hZ⟩
theorem ResSB.tupD (q : dV = true) (h : ResSB X r ok dM dV d0 d2 dA dS dZ vM vV v0 v2 pA vZ w) : ∃ x b, vV = .tuple #[x, b] := by
  obtain ⟨ui, uo, uh, uc, F, gA, ⟨kV, k0, k2, kS, kZ⟩, hM, hV, h0, h2, hA, hA2, hS, hZ⟩ := h
  exact ⟨_, _, hV q⟩
theorem ResSB.ex0D {x b : Value} (q : dV = true) (e : vV = .tuple #[x, b]) (h : ResSB X r ok dM dV d0 d2 dA dS dZ vM vV v0 v2 pA vZ w) : ResSB X r ok dM dV true d2 dA dS dZ vM vV x v2 pA vZ w := by
  subst q; subst e
  obtain ⟨ui, uo, uh, uc, F, gA, ⟨kV, k0, k2, kS, kZ⟩, hM, hV, h0, h2, hA, hA2, hS, hZ⟩ := h
  exact ⟨ui, uo, uh, uc, F, gA, ⟨kV, fun _ => rfl, k2, fun q => ⟨rfl, (kS q).2⟩, kZ⟩, hM, hV, fun _ => (tuple2 (hV rfl)).1, h2, hA, hA2, hS, hZ⟩
theorem ResSB.ex2D {x b : Value} (q : dV = true) (e : vV = .tuple #[x, b]) (h : ResSB X r ok dM dV d0 d2 dA dS dZ vM vV v0 v2 pA vZ w) : ResSB X r ok dM dV d0 true dA dS dZ vM vV v0 b pA vZ w := by
  subst q; subst e
  obtain ⟨ui, uo, uh, uc, F, gA, ⟨kV, k0, k2, kS, kZ⟩, hM, hV, h0, h2, hA, hA2, hS, hZ⟩ := h
  exact ⟨ui, uo, uh, uc, F, gA, ⟨kV, k0, fun _ => rfl, kS, fun _ => rfl⟩, hM, hV, h0, fun _ => (tuple2 (hV rfl)).2, hA, hA2, hS, hZ⟩
theorem ResSB.boxA {t : TypeId} {z0 z1 z2 z3 : Value} (h : ResSB X r ok dM dV d0 d2 false dS dZ vM vV v0 v2 pA vZ w) (hx : Below X.heap.size X w) :
    ResSB X r ok dM dV d0 d2 true dS dZ vM vV v0 v2 (.pointer (some ⟨w.heap.size, 0, none⟩)) vZ (w.alloc (.cells #[z0, z1, z2, z3] t)) := by
  have hb : Below w.heap.size w (w.alloc (.cells #[z0, z1, z2, z3] t)) := balloc (Nat.le_refl _) (Below.refl _ _) _
  have sz := hx.size
  obtain ⟨ui, uo, uh, uc, F, gA, ⟨kV, k0, k2, kS, kZ⟩, hM, hV, h0, h2, hA, hA2, hS, hZ⟩ := h
  have nS := no_of (fun q => (kS q).2) rfl
  refine ⟨ui, uo, uh, uc, F, w.heap.size, ⟨kV, k0, k2, vac nS, kZ⟩, fun q => ?_, hV, h0, h2, fun _ => ⟨rfl, sz, by simp, ⟨by simp, by simp, by simp, by simp⟩, z0, z1, z2, z3, ⟨by simp, by simp, by simp, by simp⟩⟩, fun _ q z => ?_, vac nS, hZ⟩
  · obtain ⟨e, s, f⟩ := hM q
    exact ⟨e, s.agree (SameF.of_below hb s.lim) hb.size, f⟩
  · obtain ⟨e, s, f⟩ := hM q
    exact absurd (s.lim _ z) (Nat.lt_irrefl _)
theorem ResSB.upD (q : d0 = true ∨ False) (h : ResSB X r ok dM dV d0 d2 dA dS dZ vM vV v0 v2 pA vZ w) : dM = true := by
  obtain ⟨ui, uo, uh, uc, F, gA, ⟨kV, k0, k2, kS, kZ⟩, hM, hV, h0, h2, hA, hA2, hS, hZ⟩ := h
  exact kV (k0 (q.elim id False.elim))
theorem ResSB.preAD (q : d0 = true) (q' : dA = true) (h : ResSB X r ok dM dV d0 d2 dA dS dZ vM vV v0 v2 pA vZ w) : ∃ g n a1 n1 k1 a2 n2 k2 a3 n3 k3 z0 z1 z2 z3, pA = .pointer (some ⟨g, 0, none⟩) ∧ v0 = .agg #[.int .i64 n, .slice a1 n1 k1, .slice a2 n2 k2, .slice a3 n3 k3] ∧ Free4 w g ∧ Box4 w g z0 z1 z2 z3 := by
  subst q; subst q'
  obtain ⟨ui, uo, uh, uc, F, gA, ⟨kV, k0, k2, kS, kZ⟩, hM, hV, h0, h2, hA, hA2, hS, hZ⟩ := h
  obtain ⟨e, -, -, fr, z0, z1, z2, z3, b⟩ := hA rfl
  obtain ⟨-, s, -⟩ := hM (kV (k0 rfl))
  obtain ⟨a1, n1, a2, n2, a3, n3, rfl, rfl, rfl, rfl, -⟩ := s.shape
  exact ⟨gA, _, _, _, _, _, _, _, _, _, _, z0, z1, z2, z3, e, h0 rfl, fr, b⟩
theorem ResSB.setAD {g : Nat} {u0 u1 u2 u3 : Value} (q : d0 = true) (q' : dA = true) (e1 : pA = .pointer (some ⟨g, 0, none⟩)) (e2 : v0 = .agg #[u0, u1, u2, u3]) (h : ResSB X r ok dM dV d0 d2 dA dS dZ vM vV v0 v2 pA vZ w) : X.heap.size ≤ g ∧ ResSB X r ok dM dV d0 d2 dA true dZ vM vV v0 v2 pA vZ (set4 w g u0 u1 u2 u3) := by
  subst q; subst q'; subst e1; subst e2
  obtain ⟨ui, uo, uh, uc, F, gA, ⟨kV, k0, k2, kS, kZ⟩, hM, hV, h0, h2, hA, hA2, hS, hZ⟩ := h
  obtain rfl := kV (k0 rfl)
  obtain ⟨eA, lA, mA, fA, z0, z1, z2, z3, bA⟩ := hA rfl
  obtain rfl := ptr1 eA
  obtain ⟨rfl, rfl, rfl, rfl⟩ := agg4 (h0 rfl)
  have nF := hA2 rfl rfl
  have s4 := set4_size w g u0 u1 u2 u3
  have bx : Box4 (set4 w g u0 u1 u2 u3) g u0 u1 u2 u3 := bA.copied u0 u1 u2 u3
  refine ⟨lA, u0, u1, u2, u3, F, g, ⟨kV, k0, k2, fun _ => ⟨rfl, rfl⟩, kZ⟩, fun q => ?_, hV, h0, h2, fun _ => ⟨rfl, lA, by omega, set4_free fA _ _ _ _, _, _, _, _, bx⟩, hA2, fun _ => bx, hZ⟩
  obtain ⟨e, s, f⟩ := hM q
  exact ⟨e, s.agree (fun k hk => set4_block (fun e => nF (by rw [← e]; exact hk)) _ _ _ _) (by omega), f⟩
theorem ResSB.finD (q : d2 = true) (h : ResSB X r ok dM dV d0 d2 dA dS dZ vM vV v0 v2 pA vZ w) : ResSB X r ok dM dV d0 d2 dA dS true vM vV v0 v2 pA v2 w := by
  subst q
  obtain ⟨ui, uo, uh, uc, F, gA, ⟨kV, k0, k2, kS, kZ⟩, hM, hV, h0, h2, hA, hA2, hS, hZ⟩ := h
  exact ⟨ui, uo, uh, uc, F, gA, ⟨kV, k0, k2, kS, fun _ => rfl⟩, hM, hV, h0, h2, hA, hA2, hS, fun _ => h2 rfl⟩
def CutSB (X : World) (r : SysC) (ok : Bool) (pA vZ : Value) (w : World) : Prop :=
  ∃ gA ui uo uh uc, pA = .pointer (some ⟨gA, 0, none⟩) ∧ vZ = .bool ok ∧ X.heap.size ≤ gA ∧ Box4 w gA ui uo uh uc ∧ SysR false 0 w.heap.size w ui uo uh uc r ∧ Below X.heap.size X w
theorem ResSB.cutD (h : ResSB X r ok dM dV d0 d2 dA dS dZ vM vV v0 v2 pA vZ w) (hx : Below X.heap.size X w) (qM : dM = true) (qA : dA = true) (qS : dS = true) (qZ : dZ = true) : CutSB X r ok pA vZ w := by
  obtain ⟨ui, uo, uh, uc, F, gA, ⟨kV, k0, k2, kS, kZ⟩, hM, hV, h0, h2, hA, hA2, hS, hZ⟩ := h
  obtain ⟨e, s, f⟩ := hM qM
  exact ⟨gA, ui, uo, uh, uc, (hA qA).1, hZ qZ, (hA qA).2.1, hS qS, s.read, hx⟩
end
/-- The program's answer, to be written into: a system on blocks from lo on and below hi. -/
def AnsSB (lo hi : Nat) (w : World) (ui uo uh uc : Value) (r : SysC) : Prop :=
  ∃ F : Nat → Prop, SysF F w ui uo uh uc r ∧ (∀ k, F k → lo ≤ k ∧ k < hi) ∧ hi ≤ w.heap.size
section
variable {lo hi : Nat} {w w' : World} {ui uo uh uc : Value} {r : SysC}
theorem AnsSB.keep {B : Nat} (h : AnsSB lo hi w ui uo uh uc r) (b : Below B w w') (hB : hi ≤ B) : AnsSB lo hi w' ui uo uh uc r := by
  obtain ⟨F, s, f, z⟩ := h
  exact ⟨F, s.agree (SameF.of_below b fun k q => Nat.lt_of_lt_of_le (f k q).2 hB) b.size, f, Nat.le_trans z b.size⟩
theorem AnsSB.only {l h : Nat} (a : AnsSB lo hi w ui uo uh uc r) (o : Only l h w w') (hd : hi ≤ l ∨ h ≤ lo) (hs : hi ≤ w.heap.size) : AnsSB lo hi w' ui uo uh uc r := by
  obtain ⟨F, s, f, z⟩ := a
  exact ⟨F, s.agree (fun k q => o.block k (by have := f k q; omega) (by have := f k q; omega)) o.size, f, Nat.le_trans z o.size⟩
theorem AnsSB.sys (a : AnsSB lo hi w ui uo uh uc r) : SysR false 0 w.heap.size w ui uo uh uc r := by
  obtain ⟨F, s, f, z⟩ := a; exact s.read
theorem AnsSB.of_ext {ok : Bool} {e : Ending} (q : ExtC ok r w e w') : ∃ ui uo uh uc, e = .returned (.tuple #[.agg #[ui, uo, uh, uc], .bool ok]) ∧ Below w.heap.size w w' ∧ AnsSB w.heap.size w'.heap.size w' ui uo uh uc r := by
  obtain ⟨ui, uo, uh, uc, F, rfl, hb, s, f⟩ := q
  exact ⟨ui, uo, uh, uc, rfl, hb, F, s, fun k q => ⟨f k q, s.lim k q⟩, Nat.le_refl _⟩
end
end Go.Proofs.Ytcenijdaacbgpaa.L
