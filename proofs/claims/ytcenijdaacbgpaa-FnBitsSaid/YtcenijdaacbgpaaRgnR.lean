/- A drawn region 'x.. := F(copies)' whose answers are a system, a row of combinations and a bool (written by tools/gen/rgnr.py). -/
import Derived.Test.YtcenijdaacbgpaaRgn
import Derived.Test.YtcenijdaacbgpaaB30
namespace Go.Proofs.Ytcenijdaacbgpaa.L
open Go.RowKit Go.Proofs.Ytcenijdaacbgpaa.S
set_option linter.unusedVariables false
set_option linter.unusedSimpArgs false

theorem LinS.only {o : Bool} {l h lo hi : Nat} {w w' : World} {v : Value} {xs : List (List T)} (t : LinS o l h w v xs) (ho : Only lo hi w w') (hd : h ≤ lo ∨ hi ≤ l) (hs : h ≤ w.heap.size) : LinS o l h w' v xs := t.agree (Same.of_only ho hd hs)
def ResSR (X : World) (r : SysC) (v : List (List T)) (ok : Bool) (dM dV d0 d1 d2 dA dS dR dZ : Bool) (vM vV v0 v1 v2 pA vR vZ : Value) (w : World) : Prop :=
  ∃ (ui uo uh uc uv : Value) (F G : Nat → Prop) (gA : Nat),
    ((dV = true → dM = true) ∧ (d0 = true → dV = true) ∧ (d1 = true → dV = true) ∧ (d2 = true → dV = true) ∧ (dS = true → d0 = true ∧ dA = true) ∧ (dR = true → d1 = true) ∧ (dZ = true → d2 = true)) ∧
    (dM = true → vM = .tuple #[.agg #[ui, uo, uh, uc], uv, .bool ok] ∧ SysF F w ui uo uh uc r ∧ RowF FShape.lin G w uv v ∧ (∀ k, F k → X.heap.size ≤ k) ∧ (∀ k, G k → X.heap.size ≤ k ∧ k < w.heap.size ∧ ¬ F k)) ∧
    (dV = true → vV = .tuple #[.agg #[ui, uo, uh, uc], uv, .bool ok]) ∧ (d0 = true → v0 = .agg #[ui, uo, uh, uc]) ∧ (d1 = true → v1 = uv) ∧ (d2 = true → v2 = .bool ok) ∧
    (dA = true → BoxS X gA pA w) ∧ (dA = true → dM = true → ¬ F gA ∧ ¬ G gA) ∧ (dS = true → Box4 w gA ui uo uh uc) ∧
    (dR = true → vR = uv) ∧ (dZ = true → vZ = .bool ok)
section
variable {X : World} {r : SysC} {v : List (List T)} {ok : Bool} {dM dV d0 d1 d2 dA dS dR dZ : Bool} {vM vV v0 v1 v2 pA vR vZ : Value} {w : World}
theorem ResSR.start : ResSR X r v ok false false false false false false false false false vM vV v0 v1 v2 pA vR vZ w :=
  ⟨.int .i64 0, .int .i64 0, .int .i64 0, .int .i64 0, .int .i64 0, fun _ => False, fun _ => False, 0, by simp, by simp, by simp, by simp, by simp, by simp, by simp, by simp, by simp, by simp, by simp⟩
theorem ResSR.keep {w' : World} (h : ResSR X r v ok dM dV d0 d1 d2 dA dS dR dZ vM vV v0 v1 v2 pA vR vZ w) (hb : Below w.heap.size w w') : ResSR X r v ok dM dV d0 d1 d2 dA dS dR dZ vM vV v0 v1 v2 pA vR vZ w' := by
  obtain ⟨ui, uo, uh, uc, uv, F, G, gA, ⟨kV, k0, k1, k2, kS, kR, kZ⟩, hM, hV, h0, h1, h2, hA, hA2, hS, hR, hZ⟩ := h
  refine ⟨ui, uo, uh, uc, uv, F, G, gA, ⟨kV, k0, k1, k2, kS, kR, kZ⟩, fun q => ?_, hV, h0, h1, h2, fun q => (hA q).keep hb, hA2, fun q => (hS q).keep' hb (hA (kS q).2).2.2.1, hR, hZ⟩
  obtain ⟨e, s, t, f, g⟩ := hM q
  exact ⟨e, s.agree (SameF.of_below hb s.lim) hb.size, t.agree (SameF.of_below hb fun k q => (g k q).2.1) hb.size, f, fun k q => ⟨(g k q).1, Nat.lt_of_lt_of_le (g k q).2.1 hb.size, (g k q).2.2⟩⟩
theorem ResSR.main {w' : World} {e : Ending} (h : ResSR X r v ok false dV d0 d1 d2 dA dS dR dZ vM vV v0 v1 v2 pA vR vZ w) (hx : Below X.heap.size X w) (q : ExtR ok r v w e w') :
    ∃ u, e = .returned u ∧ Below w.heap.size w w' ∧ ResSR X r v ok true dV d0 d1 d2 dA dS dR dZ u vV v0 v1 v2 pA vR vZ w' := by
  obtain ⟨ui', uo', uh', uc', uv', F', G', rfl, hb, sS, sT, sF, sG⟩ := q
  obtain ⟨ui, uo, uh, uc, uv, F, G, gA, ⟨kV, k0, k1, k2, kS, kR, kZ⟩, hM, hV, h0, h1, h2, hA, hA2, hS, hR, hZ⟩ := h
  have sz := hx.size
  have nV := no_of kV rfl
  have n0 := no_of k0 nV
  have n1 := no_of k1 nV
  have n2 := no_of k2 nV
  have nS := no_of (fun q => (kS q).1) n0
  have nR := no_of kR n1
  have nZ := no_of kZ n2
  refine ⟨_, rfl, hb, ui', uo', uh', uc', uv', F', G', gA, ⟨fun _ => rfl, k0, k1, k2, kS, kR, kZ⟩, fun _ => ⟨rfl, sS, sT, fun k q => Nat.le_trans sz (sF k q), fun k q => ⟨Nat.le_trans sz (sG k q).1, (sG k q).2⟩⟩, vac nV, vac n0, vac n1, vac n2, fun q => (hA q).keep hb, fun q _ => ?_, vac nS, vac nR, vac nZ⟩
  have := (hA q).2.2.1; exact ⟨fun z => absurd (sF _ z) (by omega), fun z => absurd (sG _ z).1 (by omega)⟩
theorem ResSR.moveD (q : dM = true) (h : ResSR X r v ok dM dV d0 d1 d2 dA dS dR dZ vM vV v0 v1 v2 pA vR vZ w) : ResSR X r v ok dM true d0 d1 d2 dA dS dR dZ vM vM v0 v1 v2 pA vR vZ w := by
  subst q
  obtain ⟨ui, uo, uh, uc, uv, F, G, gA, ⟨kV, k0, k1, k2, kS, kR, kZ⟩, hM, hV, h0, h1, h2, hA, hA2, hS, hR, hZ⟩ := h
  exact ⟨ui, uo, uh, uc, uv, F, G, gA, ⟨fun _ => rfl, fun _ => rfl, fun _ => rfl, fun _ => rfl, kS, kR, kZ⟩, hM, fun _ => (hM rfl).1, h0, h1, h2, hA, hA2, hS, hR, hZ⟩
theorem ResSR.tupD (q : dV = true) (h : ResSR X r v ok dM dV d0 d1 d2 dA dS dR dZ vM vV v0 v1 v2 pA vR vZ w) : ∃ x y b, vV = .tuple #[x, y, b] := by
  obtain ⟨ui, uo, uh, uc, uv, F, G, gA, ⟨kV, k0, k1, k2, kS, kR, kZ⟩, hM, hV, h0, h1, h2, hA, hA2, hS, hR, hZ⟩ := h
  exact ⟨_, _, _, hV q⟩
theorem ResSR.ex0D {x y b : Value} (q : dV = true) (e : vV = .tuple #[x, y, b]) (h : ResSR X r v ok dM dV d0 d1 d2 dA dS dR dZ vM vV v0 v1 v2 pA vR vZ w) : ResSR X r v ok dM dV true d1 d2 dA dS dR dZ vM vV x v1 v2 pA vR vZ w := by
  subst q; subst e
  obtain ⟨ui, uo, uh, uc, uv, F, G, gA, ⟨kV, k0, k1, k2, kS, kR, kZ⟩, hM, hV, h0, h1, h2, hA, hA2, hS, hR, hZ⟩ := h
  exact ⟨ui, uo, uh, uc, uv, F, G, gA, ⟨kV, fun _ => rfl, k1, k2, fun q => ⟨rfl, (kS q).2⟩, kR, kZ⟩, hM, hV, fun _ => (tuple3 (hV rfl)).1, h1, h2, hA, hA2, hS, hR, hZ⟩
theorem ResSR.ex1D {x y b : Value} (q : dV = true) (e : vV = .tuple #[x, y, b]) (h : ResSR X r v ok dM dV d0 d1 d2 dA dS dR dZ vM vV v0 v1 v2 pA vR vZ w) : ResSR X r v ok dM dV d0 true d2 dA dS dR dZ vM vV v0 y v2 pA vR vZ w := by
  subst q; subst e
  obtain ⟨ui, uo, uh, uc, uv, F, G, gA, ⟨kV, k0, k1, k2, kS, kR, kZ⟩, hM, hV, h0, h1, h2, hA, hA2, hS, hR, hZ⟩ := h
  exact ⟨ui, uo, uh, uc, uv, F, G, gA, ⟨kV, k0, fun _ => rfl, k2, kS, fun q => rfl, kZ⟩, hM, hV, h0, fun _ => (tuple3 (hV rfl)).2.1, h2, hA, hA2, hS, hR, hZ⟩
theorem ResSR.ex2D {x y b : Value} (q : dV = true) (e : vV = .tuple #[x, y, b]) (h : ResSR X r v ok dM dV d0 d1 d2 dA dS dR dZ vM vV v0 v1 v2 pA vR vZ w) : ResSR X r v ok dM dV d0 d1 true dA dS dR dZ vM vV v0 v1 b pA vR vZ w := by
  subst q; subst e
  obtain ⟨ui, uo, uh, uc, uv, F, G, gA, ⟨kV, k0, k1, k2, kS, kR, kZ⟩, hM, hV, h0, h1, h2, hA, hA2, hS, hR, hZ⟩ := h
  exact ⟨ui, uo, uh, uc, uv, F, G, gA, ⟨kV, k0, k1, fun _ => rfl, kS, kR, fun q => rfl⟩, hM, hV, h0, h1, fun _ => (tuple3 (hV rfl)).2.2, hA, hA2, hS, hR, hZ⟩
theorem ResSR.boxA {t : TypeId} {z0 z1 z2 z3 : Value} (h : ResSR X r v ok dM dV d0 d1 d2 false dS dR dZ vM vV v0 v1 v2 pA vR vZ w) (hx : Below X.heap.size X w) :
    ResSR X r v ok dM dV d0 d1 d2 true dS dR dZ vM vV v0 v1 v2 (.pointer (some ⟨w.heap.size, 0, none⟩)) vR vZ (w.alloc (.cells #[z0, z1, z2, z3] t)) := by
  have hb : Below w.heap.size w (w.alloc (.cells #[z0, z1, z2, z3] t)) := balloc (Nat.le_refl _) (Below.refl _ _) _
  have sz := hx.size
  obtain ⟨ui, uo, uh, uc, uv, F, G, gA, ⟨kV, k0, k1, k2, kS, kR, kZ⟩, hM, hV, h0, h1, h2, hA, hA2, hS, hR, hZ⟩ := h
  have nS := no_of (fun q => (kS q).2) rfl
  refine ⟨ui, uo, uh, uc, uv, F, G, w.heap.size, ⟨kV, k0, k1, k2, vac nS, kR, kZ⟩, fun q => ?_, hV, h0, h1, h2, fun _ => ⟨rfl, sz, by simp, ⟨by simp, by simp, by simp, by simp⟩, z0, z1, z2, z3, ⟨by simp, by simp, by simp, by simp⟩⟩, fun _ q => ?_, vac nS, hR, hZ⟩
  · obtain ⟨e, s, t, f, g⟩ := hM q
    exact ⟨e, s.agree (SameF.of_below hb s.lim) hb.size, t.agree (SameF.of_below hb fun k q => (g k q).2.1) hb.size, f, fun k q => ⟨(g k q).1, Nat.lt_of_lt_of_le (g k q).2.1 hb.size, (g k q).2.2⟩⟩
  · obtain ⟨e, s, t, f, g⟩ := hM q
    exact ⟨fun z => absurd (s.lim _ z) (Nat.lt_irrefl _), fun z => absurd (g _ z).2.1 (Nat.lt_irrefl _)⟩
theorem ResSR.upD (q : d0 = true ∨ False) (h : ResSR X r v ok dM dV d0 d1 d2 dA dS dR dZ vM vV v0 v1 v2 pA vR vZ w) : dM = true := by
  obtain ⟨ui, uo, uh, uc, uv, F, G, gA, ⟨kV, k0, k1, k2, kS, kR, kZ⟩, hM, hV, h0, h1, h2, hA, hA2, hS, hR, hZ⟩ := h
  exact kV (k0 (q.elim id False.elim))
theorem ResSR.preAD (q : d0 = true) (q' : dA = true) (h : ResSR X r v ok dM dV d0 d1 d2 dA dS dR dZ vM vV v0 v1 v2 pA vR vZ w) : ∃ g n a1 n1 k1 a2 n2 k2 a3 n3 k3 z0 z1 z2 z3, pA = .pointer (some ⟨g, 0, none⟩) ∧ v0 = .agg #[.int .i64 n, .slice a1 n1 k1, .slice a2 n2 k2, .slice a3 n3 k3] ∧ Free4 w g ∧ Box4 w g z0 z1 z2 z3 := by
  subst q; subst q'
  obtain ⟨ui, uo, uh, uc, uv, F, G, gA, ⟨kV, k0, k1, k2, kS, kR, kZ⟩, hM, hV, h0, h1, h2, hA, hA2, hS, hR, hZ⟩ := h
  obtain ⟨e, -, -, fr, z0, z1, z2, z3, b⟩ := hA rfl
  obtain ⟨-, s, -⟩ := hM (kV (k0 rfl))
  obtain ⟨a1, n1, a2, n2, a3, n3, rfl, rfl, rfl, rfl, -⟩ := s.shape
  exact ⟨gA, _, _, _, _, _, _, _, _, _, _, z0, z1, z2, z3, e, h0 rfl, fr, b⟩
theorem ResSR.setAD {g : Nat} {u0 u1 u2 u3 : Value} (q : d0 = true) (q' : dA = true) (e1 : pA = .pointer (some ⟨g, 0, none⟩)) (e2 : v0 = .agg #[u0, u1, u2, u3]) (h : ResSR X r v ok dM dV d0 d1 d2 dA dS dR dZ vM vV v0 v1 v2 pA vR vZ w) : X.heap.size ≤ g ∧ ResSR X r v ok dM dV d0 d1 d2 dA true dR dZ vM vV v0 v1 v2 pA vR vZ (set4 w g u0 u1 u2 u3) := by
  subst q; subst q'; subst e1; subst e2
  obtain ⟨ui, uo, uh, uc, uv, F, G, gA, ⟨kV, k0, k1, k2, kS, kR, kZ⟩, hM, hV, h0, h1, h2, hA, hA2, hS, hR, hZ⟩ := h
  obtain rfl := kV (k0 rfl)
  obtain ⟨eA, lA, mA, fA, z0, z1, z2, z3, bA⟩ := hA rfl
  obtain rfl := ptr1 eA
  obtain ⟨rfl, rfl, rfl, rfl⟩ := agg4 (h0 rfl)
  obtain ⟨nF, nG⟩ := hA2 rfl rfl
  have s4 := set4_size w g u0 u1 u2 u3
  have bx : Box4 (set4 w g u0 u1 u2 u3) g u0 u1 u2 u3 := bA.copied u0 u1 u2 u3
  refine ⟨lA, u0, u1, u2, u3, uv, F, G, g, ⟨kV, k0, k1, k2, fun _ => ⟨rfl, rfl⟩, kR, kZ⟩, fun q => ?_, hV, h0, h1, h2, fun _ => ⟨rfl, lA, by omega, set4_free fA _ _ _ _, _, _, _, _, bx⟩, hA2, fun _ => bx, hR, hZ⟩
  obtain ⟨e, s, t, f, g'⟩ := hM q
  exact ⟨e, s.agree (fun k hk => set4_block (fun e => nF (by rw [← e]; exact hk)) _ _ _ _) (by omega), t.agree (fun k hk => set4_block (fun e => nG (by rw [← e]; exact hk)) _ _ _ _) (by omega), f, fun k q => ⟨(g' k q).1, by have := (g' k q).2.1; omega, (g' k q).2.2⟩⟩
theorem ResSR.rowD (q : d1 = true) (h : ResSR X r v ok dM dV d0 d1 d2 dA dS dR dZ vM vV v0 v1 v2 pA vR vZ w) : ResSR X r v ok dM dV d0 d1 d2 dA dS true dZ vM vV v0 v1 v2 pA v1 vZ w := by
  subst q
  obtain ⟨ui, uo, uh, uc, uv, F, G, gA, ⟨kV, k0, k1, k2, kS, kR, kZ⟩, hM, hV, h0, h1, h2, hA, hA2, hS, hR, hZ⟩ := h
  exact ⟨ui, uo, uh, uc, uv, F, G, gA, ⟨kV, k0, k1, k2, kS, fun _ => rfl, kZ⟩, hM, hV, h0, h1, h2, hA, hA2, hS, fun _ => h1 rfl, hZ⟩
theorem ResSR.finD (q : d2 = true) (h : ResSR X r v ok dM dV d0 d1 d2 dA dS dR dZ vM vV v0 v1 v2 pA vR vZ w) : ResSR X r v ok dM dV d0 d1 d2 dA dS dR true vM vV v0 v1 v2 pA vR v2 w := by
  subst q
  obtain ⟨ui, uo, uh, uc, uv, F, G, gA, ⟨kV, k0, k1, k2, kS, kR, kZ⟩, hM, hV, h0, h1, h2, hA, hA2, hS, hR, hZ⟩ := h
  exact ⟨ui, uo, uh, uc, uv, F, G, gA, ⟨kV, k0, k1, k2, kS, kR, fun _ => rfl⟩, hM, hV, h0, h1, h2, hA, hA2, hS, hR, fun _ => h2 rfl⟩
def CutSR (X : World) (r : SysC) (v : List (List T)) (ok : Bool) (pA vR vZ : Value) (w : World) : Prop :=
  ∃ gA ui uo uh uc uv, pA = .pointer (some ⟨gA, 0, none⟩) ∧ vR = uv ∧ vZ = .bool ok ∧ X.heap.size ≤ gA ∧ Box4 w gA ui uo uh uc ∧ SysR false 0 w.heap.size w ui uo uh uc r ∧ LinS false 0 w.heap.size w uv v ∧ Below X.heap.size X w
theorem ResSR.cutD (h : ResSR X r v ok dM dV d0 d1 d2 dA dS dR dZ vM vV v0 v1 v2 pA vR vZ w) (hx : Below X.heap.size X w) (qM : dM = true) (qA : dA = true) (qS : dS = true) (qR : dR = true) (qZ : dZ = true) : CutSR X r v ok pA vR vZ w := by
  obtain ⟨ui, uo, uh, uc, uv, F, G, gA, ⟨kV, k0, k1, k2, kS, kR, kZ⟩, hM, hV, h0, h1, h2, hA, hA2, hS, hR, hZ⟩ := h
  obtain ⟨e, s, t, f, g⟩ := hM qM
  exact ⟨gA, ui, uo, uh, uc, uv, (hA qA).1, hR qR, hZ qZ, (hA qA).2.1, hS qS, s.read, t.read, hx⟩
end
/-- The program's answers, to be written into: a system and a row of combinations, on blocks from lo on and below hi. -/
def AnsSR (lo hi : Nat) (w : World) (ui uo uh uc uv : Value) (r : SysC) (v : List (List T)) : Prop :=
  ∃ F G : Nat → Prop, SysF F w ui uo uh uc r ∧ RowF FShape.lin G w uv v ∧ (∀ k, F k → lo ≤ k ∧ k < hi) ∧ (∀ k, G k → lo ≤ k ∧ k < hi ∧ ¬ F k) ∧ hi ≤ w.heap.size
section
variable {lo hi : Nat} {w w' : World} {ui uo uh uc uv : Value} {r : SysC} {v : List (List T)}
theorem AnsSR.keep {B : Nat} (h : AnsSR lo hi w ui uo uh uc uv r v) (b : Below B w w') (hB : hi ≤ B) : AnsSR lo hi w' ui uo uh uc uv r v := by
  obtain ⟨F, G, s, t, f, g, z⟩ := h
  exact ⟨F, G, s.agree (SameF.of_below b fun k q => Nat.lt_of_lt_of_le (f k q).2 hB) b.size, t.agree (SameF.of_below b fun k q => Nat.lt_of_lt_of_le (g k q).2.1 hB) b.size, f, g, Nat.le_trans z b.size⟩
theorem AnsSR.only {l h : Nat} (a : AnsSR lo hi w ui uo uh uc uv r v) (o : Only l h w w') (hd : hi ≤ l ∨ h ≤ lo) (hs : hi ≤ w.heap.size) : AnsSR lo hi w' ui uo uh uc uv r v := by
  obtain ⟨F, G, s, t, f, g, z⟩ := a
  exact ⟨F, G, s.agree (fun k q => o.block k (by have := f k q; omega) (by have := f k q; omega)) o.size, t.agree (fun k q => o.block k (by have := g k q; omega) (by have := g k q; omega)) o.size, f, g, Nat.le_trans z o.size⟩
theorem AnsSR.sys (a : AnsSR lo hi w ui uo uh uc uv r v) : SysR false 0 w.heap.size w ui uo uh uc r := by
  obtain ⟨F, G, s, t, f, g, z⟩ := a; exact s.read
theorem AnsSR.snd (a : AnsSR lo hi w ui uo uh uc uv r v) : LinS false 0 w.heap.size w uv v := by
  obtain ⟨F, G, s, t, f, g, z⟩ := a; exact t.read
theorem AnsSR.of_ext {ok : Bool} {e : Ending} (q : ExtR ok r v w e w') : ∃ ui uo uh uc uv, e = .returned (.tuple #[.agg #[ui, uo, uh, uc], uv, .bool ok]) ∧ Below w.heap.size w w' ∧ AnsSR w.heap.size w'.heap.size w' ui uo uh uc uv r v := by
  obtain ⟨ui, uo, uh, uc, uv, F, G, rfl, hb, s, t, f, g⟩ := q
  exact ⟨ui, uo, uh, uc, uv, rfl, hb, F, G, s, t, fun k q => ⟨f k q, s.lim k q⟩, g, Nat.le_refl _⟩
end
end Go.Proofs.Ytcenijdaacbgpaa.L
