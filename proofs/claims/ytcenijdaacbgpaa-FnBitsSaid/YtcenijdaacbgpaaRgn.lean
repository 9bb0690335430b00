/- A drawn region 'x.. := F(copies)': what is known of its answers while its operations come up (written by tools/gen/rgn.py). -/
import Derived.Test.YtcenijdaacbgpaaB3
import Derived.Test.YtcenijdaacbgpaaB12
import Derived.Test.YtcenijdaacbgpaaB2
namespace Go.Proofs.Ytcenijdaacbgpaa.L
open Go.RowKit Go.Proofs.Ytcenijdaacbgpaa.S
set_option linter.unusedVariables false
set_option linter.unusedSimpArgs false

theorem Terms.toF' {o : Bool} {l h : Nat} {w : World} {v : Value} {ts : List T} (t : Terms o l h w v ts) : TermsF o (fun k => l ≤ k ∧ k < h) w v ts := ⟨l, h, fun k a b => ⟨a, b⟩, t⟩
theorem frozen_keep {B b j : Nat} {w w' : World} (hb : Below B w w') (h : b < B) (f : w.frozen? ⟨b, j, none⟩ = false) : w'.frozen? ⟨b, j, none⟩ = false := (hb.frozen (p := ⟨b, j, none⟩) h).trans f
theorem Box4.keep' {w w' : World} {B b : Nat} {v0 v1 v2 v3 : Value} (h : Box4 w b v0 v1 v2 v3) (hb : Below B w w') (hB : b < B) : Box4 w' b v0 v1 v2 v3 := h.same (hb.block b hB)
theorem Free4.keep' {w w' : World} {B b : Nat} (h : Free4 w b) (hb : Below B w w') (hB : b < B) : Free4 w' b := h.same (hb.block b hB)
theorem frozen_set {w : World} {p : Addr} {u : Value} (q : Addr) : (w.setCell p u).frozen? q = w.frozen? q := by simp
theorem Box4.set {w : World} {b : Nat} {p : Addr} {u v0 v1 v2 v3 : Value} (h : Box4 w b v0 v1 v2 v3) (hne : p.block ≠ b) : Box4 (w.setCell p u) b v0 v1 v2 v3 := h.same (Below.heap_setCell _ _ _ _ (Ne.symm hne))
def set4 (w : World) (b : Nat) (u0 u1 u2 u3 : Value) : World := (((w.setCell ⟨b, 0, none⟩ u0).setCell ⟨b, 1, none⟩ u1).setCell ⟨b, 2, none⟩ u2).setCell ⟨b, 3, none⟩ u3
theorem set4_size (w : World) (b : Nat) (u0 u1 u2 u3 : Value) : (set4 w b u0 u1 u2 u3).heap.size = w.heap.size := by simp [set4]
theorem set4_below {B : Nat} {a w : World} {b : Nat} (h : Below B a w) (hb : B ≤ b) (u0 u1 u2 u3 : Value) : Below B a (set4 w b u0 u1 u2 u3) := bset hb (bset hb (bset hb (bset hb h u0) u1) u2) u3
theorem set4_block {w : World} {b k : Nat} (hne : k ≠ b) (u0 u1 u2 u3 : Value) : (set4 w b u0 u1 u2 u3).heap[k]? = w.heap[k]? := by
  unfold set4
  rw [Below.heap_setCell _ _ _ _ hne, Below.heap_setCell _ _ _ _ hne, Below.heap_setCell _ _ _ _ hne, Below.heap_setCell _ _ _ _ hne]
theorem set4_free {w : World} {b c : Nat} (h : Free4 w c) (u0 u1 u2 u3 : Value) : Free4 (set4 w b u0 u1 u2 u3) c := (((h.set _ _).set _ _).set _ _).set _ _
theorem set4_frozen {w : World} {b c j : Nat} (h : w.frozen? ⟨c, j, none⟩ = false) (u0 u1 u2 u3 : Value) : (set4 w b u0 u1 u2 u3).frozen? ⟨c, j, none⟩ = false := by
  unfold set4; rw [frozen_set, frozen_set, frozen_set, frozen_set]; exact h
theorem set4_cell {w : World} {b c j : Nat} {x : Value} (hne : c ≠ b) (h : w.cell? ⟨c, j, none⟩ = some x) (u0 u1 u2 u3 : Value) : (set4 w b u0 u1 u2 u3).cell? ⟨c, j, none⟩ = some x :=
  (World.cell?_of_block (a := ⟨c, j, none⟩) (set4_block hne u0 u1 u2 u3)).trans h

/-- A box for a system: its number, made behind X, free to be written. -/
def BoxS (X : World) (g : Nat) (p : Value) (w : World) : Prop := p = .pointer (some ⟨g, 0, none⟩) ∧ X.heap.size ≤ g ∧ g < w.heap.size ∧ Free4 w g ∧ ∃ z0 z1 z2 z3, Box4 w g z0 z1 z2 z3
theorem BoxS.keep {X w w' : World} {g : Nat} {p : Value} (h : BoxS X g p w) (hb : Below w.heap.size w w') : BoxS X g p w' := by
  obtain ⟨h1, h2, h3, h4, z0, z1, z2, z3, h5⟩ := h
  have := hb.size
  exact ⟨h1, h2, by omega, h4.keep' hb h3, z0, z1, z2, z3, h5.keep' hb h3⟩
/-- A box for one cell. -/
def BoxL (X : World) (g : Nat) (p : Value) (w : World) : Prop := p = .pointer (some ⟨g, 0, none⟩) ∧ X.heap.size ≤ g ∧ g < w.heap.size ∧ w.frozen? ⟨g, 0, none⟩ = false ∧ ∃ z, w.cell? ⟨g, 0, none⟩ = some z
theorem BoxL.keep {X w w' : World} {g : Nat} {p : Value} (h : BoxL X g p w) (hb : Below w.heap.size w w') : BoxL X g p w' := by
  obtain ⟨h1, h2, h3, h4, z, h5⟩ := h
  have := hb.size
  exact ⟨h1, h2, by omega, frozen_keep hb h3 h4, z, cell_keep hb h5⟩

/-- The copies of arguments. -/
def ArgSys (dC dM : Bool) (s : SysC) (v : Value) (w : World) : Prop := dC = true → dM = false → ∃ a b c, v = .agg #[.int .i64 s.ins, a, b, c] ∧ SysR true 0 w.heap.size w (.int .i64 s.ins) a b c s
def ArgLin (dC dM : Bool) (ts : List T) (v : Value) (w : World) : Prop := dC = true → dM = false → ∃ a, v = .agg #[a] ∧ Terms true 0 w.heap.size w a ts
def ArgRow (dC dM : Bool) (xs : List (List T)) (v : Value) (w : World) : Prop := dC = true → dM = false → LinS true 0 w.heap.size w v xs
theorem ArgSys.keep {dC dM : Bool} {s : SysC} {v : Value} {w w' : World} (h : ArgSys dC dM s v w) (hb : Below w.heap.size w w') : ArgSys dC dM s v w' := fun h1 h2 => by
  obtain ⟨a, b, c, e, t⟩ := h h1 h2
  exact ⟨a, b, c, e, (t.keep hb (Nat.le_refl _)).mono (Nat.le_refl _) hb.size⟩
theorem ArgLin.keep {dC dM : Bool} {s : List T} {v : Value} {w w' : World} (h : ArgLin dC dM s v w) (hb : Below w.heap.size w w') : ArgLin dC dM s v w' := fun h1 h2 => by
  obtain ⟨a, e, t⟩ := h h1 h2
  exact ⟨a, e, (t.keep hb (Nat.le_refl _)).mono (Nat.le_refl _) hb.size⟩
theorem ArgRow.keep {dC dM : Bool} {s : List (List T)} {v : Value} {w w' : World} (h : ArgRow dC dM s v w) (hb : Below w.heap.size w w') : ArgRow dC dM s v w' := fun h1 h2 =>
  ((h h1 h2).keep hb (Nat.le_refl _)).mono (Nat.le_refl _) hb.size
theorem ArgSys.new {dC dM : Bool} {s : SysC} {l : Nat} {w : World} {a b c : Value} (t : SysR true l w.heap.size w (.int .i64 s.ins) a b c s) : ArgSys dC dM s (.agg #[.int .i64 s.ins, a, b, c]) w := fun _ _ => ⟨a, b, c, rfl, t.mono (Nat.zero_le _) (Nat.le_refl _)⟩
theorem ArgLin.new {dC dM : Bool} {s : List T} {l : Nat} {w : World} {a : Value} (t : Terms true l w.heap.size w a s) : ArgLin dC dM s (.agg #[a]) w := fun _ _ => ⟨a, rfl, t.mono (Nat.zero_le _) (Nat.le_refl _)⟩
theorem ArgRow.new {dC dM : Bool} {s : List (List T)} {l : Nat} {w : World} {a : Value} (t : LinS true l w.heap.size w a s) : ArgRow dC dM s a w := fun _ _ => t.mono (Nat.zero_le _) (Nat.le_refl _)
theorem ArgSys.past {dC : Bool} {s : SysC} {v : Value} {w : World} : ArgSys dC true s v w := fun _ h => by cases h
theorem ArgLin.past {dC : Bool} {s : List T} {v : Value} {w : World} : ArgLin dC true s v w := fun _ h => by cases h
theorem ArgRow.past {dC : Bool} {s : List (List T)} {v : Value} {w : World} : ArgRow dC true s v w := fun _ h => by cases h
theorem ArgSys.pastD {dC dM : Bool} {s : SysC} {v : Value} {w : World} (q : dM = true) : ArgSys dC dM s v w := by subst q; exact .past
theorem ArgLin.pastD {dC dM : Bool} {s : List T} {v : Value} {w : World} (q : dM = true) : ArgLin dC dM s v w := by subst q; exact .past
theorem ArgRow.pastD {dC dM : Bool} {s : List (List T)} {v : Value} {w : World} (q : dM = true) : ArgRow dC dM s v w := by subst q; exact .past
theorem mem_totR {α : Type} {f : α → Nat} {xs : List α} {x : α} (h : x ∈ xs) : f x ≤ tot f xs := mem_tot h
theorem small_of {s : SysC} (h : szS s ≤ 1048576) : Small s := by
  have hS0 : szLs s.outs + szHs s.hints + szCs s.cons = szS s := rfl
  refine ⟨by unfold szLs at hS0; omega, by unfold szHs at hS0; omega, by unfold szCs at hS0; omega, fun t ht => ?_, fun x hx => ?_, fun c hc => ?_⟩
  · have := mem_totR (f := List.length) ht; unfold szLs at hS0; omega
  · have h1 := mem_totR (f := szH) hx; have h2 : szH x = x.a.length + x.b.length := rfl; unfold szHs at hS0; omega
  · have h1 := mem_totR (f := szC) hc; have h2 : szC c = c.a.length + c.b.length + c.c.length := rfl; unfold szCs at hS0; omega
theorem totL_le (xs : List (List T)) : tot fL xs ≤ 2 * szLs xs := by rw [tot_fL]; unfold szLs; omega
theorem elL_le {xs : List (List T)} {t : List T} {n : Nat} (h : t ∈ xs) (hn : szLs xs ≤ n) : t.length ≤ n := by
  have := mem_totR (f := List.length) h; unfold szLs at hn; omega
theorem ArgSys.none {dM : Bool} {s : SysC} {v : Value} {w : World} : ArgSys false dM s v w := fun h => by cases h
theorem ArgLin.none {dM : Bool} {s : List T} {v : Value} {w : World} : ArgLin false dM s v w := fun h => by cases h
theorem ArgRow.none {dM : Bool} {s : List (List T)} {v : Value} {w : World} : ArgRow false dM s v w := fun h => by cases h

def ResSL (X : World) (r : SysC) (v : List T) (ok : Bool) (dM dV d0 d1 d2 dA dB dS dT dZ : Bool) (vM vV v0 v1 v2 pA pB vZ : Value) (w : World) : Prop :=
  ∃ (ui uo uh uc uv : Value) (F G : Nat → Prop) (gA gB : Nat),
    ((dV = true → dM = true) ∧ (d0 = true → dV = true) ∧ (d1 = true → dV = true) ∧ (d2 = true → dV = true) ∧ (dS = true → d0 = true ∧ dA = true) ∧ (dT = true → d1 = true ∧ dB = true) ∧ (dZ = true → d2 = true)) ∧
    (dM = true → vM = .tuple #[.agg #[ui, uo, uh, uc], .agg #[uv], .bool ok] ∧ SysF F w ui uo uh uc r ∧ TermsF true G w uv v ∧ (∀ k, F k → X.heap.size ≤ k) ∧ (∀ k, G k → X.heap.size ≤ k ∧ k < w.heap.size ∧ ¬ F k)) ∧
    (dV = true → vV = .tuple #[.agg #[ui, uo, uh, uc], .agg #[uv], .bool ok]) ∧ (d0 = true → v0 = .agg #[ui, uo, uh, uc]) ∧ (d1 = true → v1 = .agg #[uv]) ∧ (d2 = true → v2 = .bool ok) ∧
    (dA = true → BoxS X gA pA w) ∧ (dA = true → dM = true → ¬ F gA ∧ ¬ G gA) ∧ (dS = true → Box4 w gA ui uo uh uc) ∧
    (dB = true → BoxL X gB pB w) ∧ (dB = true → dM = true → ¬ F gB ∧ ¬ G gB) ∧ (dT = true → w.cell? ⟨gB, 0, none⟩ = some uv) ∧ (dA = true → dB = true → gA ≠ gB) ∧
    (dZ = true → vZ = .bool ok)
section
variable {X : World} {r : SysC} {v : List T} {ok : Bool} {dM dV d0 d1 d2 dA dB dS dT dZ : Bool} {vM vV v0 v1 v2 pA pB vZ : Value} {w : World}
theorem no_of {a b : Bool} (h : a = true → b = true) (hb : b = false) : a = false := by cases a; rfl; rw [h rfl] at hb; cases hb
theorem vac {a : Bool} {p : Prop} (h : a = false) : a = true → p := fun q => by rw [h] at q; cases q
theorem ResSL.start : ResSL X r v ok false false false false false false false false false false vM vV v0 v1 v2 pA pB vZ w :=
  ⟨.int .i64 0, .int .i64 0, .int .i64 0, .int .i64 0, .int .i64 0, fun _ => False, fun _ => False, 0, 0, by simp, by simp, by simp, by simp, by simp, by simp, by simp, by simp, by simp, by simp, by simp, by simp, by simp, by simp⟩
theorem ResSL.keep {w' : World} (h : ResSL X r v ok dM dV d0 d1 d2 dA dB dS dT dZ vM vV v0 v1 v2 pA pB vZ w) (hb : Below w.heap.size w w') : ResSL X r v ok dM dV d0 d1 d2 dA dB dS dT dZ vM vV v0 v1 v2 pA pB vZ w' := by
  obtain ⟨ui, uo, uh, uc, uv, F, G, gA, gB, ⟨kV, k0, k1, k2, kS, kT, kZ⟩, hM, hV, h0, h1, h2, hA, hA2, hS, hB, hB2, hT, hAB, hZ⟩ := h
  refine ⟨ui, uo, uh, uc, uv, F, G, gA, gB, ⟨kV, k0, k1, k2, kS, kT, kZ⟩, fun q => ?_, hV, h0, h1, h2, fun q => (hA q).keep hb, hA2, fun q => (hS q).keep' hb (hA (kS q).2).2.2.1, fun q => (hB q).keep hb, hB2, fun q => cell_keep hb (hT q), hAB, hZ⟩
  obtain ⟨e, s, t, f, g⟩ := hM q
  exact ⟨e, s.agree (SameF.of_below hb s.lim) hb.size, t.agree (SameF.of_below hb fun k q => (g k q).2.1), f, fun k q => ⟨(g k q).1, Nat.lt_of_lt_of_le (g k q).2.1 hb.size, (g k q).2.2⟩⟩
theorem ResSL.main {w' : World} {e : Ending} (h : ResSL X r v ok false dV d0 d1 d2 dA dB dS dT dZ vM vV v0 v1 v2 pA pB vZ w) (hx : Below X.heap.size X w) (q : ExtL ok r v w e w') :
    ∃ u, e = .returned u ∧ Below w.heap.size w w' ∧ ResSL X r v ok true dV d0 d1 d2 dA dB dS dT dZ u vV v0 v1 v2 pA pB vZ w' := by
  obtain ⟨ui', uo', uh', uc', uv', F', G', rfl, hb, sS, sT, sF, sG⟩ := q
  obtain ⟨ui, uo, uh, uc, uv, F, G, gA, gB, ⟨kV, k0, k1, k2, kS, kT, kZ⟩, hM, hV, h0, h1, h2, hA, hA2, hS, hB, hB2, hT, hAB, hZ⟩ := h
  have sz := hx.size
  have nV := no_of kV rfl
  have n0 := no_of k0 nV
  have n1 := no_of k1 nV
  have n2 := no_of k2 nV
  have nS := no_of (fun q => (kS q).1) n0
  have nT := no_of (fun q => (kT q).1) n1
  have nZ := no_of kZ n2
  refine ⟨_, rfl, hb, ui', uo', uh', uc', uv', F', G', gA, gB, ⟨fun _ => rfl, k0, k1, k2, kS, kT, kZ⟩, fun _ => ⟨rfl, sS, sT, fun k q => Nat.le_trans sz (sF k q), fun k q => ⟨Nat.le_trans sz (sG k q).1, (sG k q).2⟩⟩, vac nV, vac n0, vac n1, vac n2, fun q => (hA q).keep hb, fun q _ => ?_, vac nS, fun q => (hB q).keep hb, fun q _ => ?_, vac nT, hAB, vac nZ⟩
  · have := (hA q).2.2.1; exact ⟨fun z => absurd (sF _ z) (by omega), fun z => absurd (sG _ z).1 (by omega)⟩
  · have := (hB q).2.2.1; exact ⟨fun z => absurd (sF _ z) (by omega), fun z => absurd (sG _ z).1 (by omega)⟩
theorem ResSL.move (h : ResSL X r v ok true dV d0 d1 d2 dA dB dS dT dZ vM vV v0 v1 v2 pA pB vZ w) : ResSL X r v ok true true d0 d1 d2 dA dB dS dT dZ vM vM v0 v1 v2 pA pB vZ w := by
  obtain ⟨ui, uo, uh, uc, uv, F, G, gA, gB, ⟨kV, k0, k1, k2, kS, kT, kZ⟩, hM, hV, h0, h1, h2, hA, hA2, hS, hB, hB2, hT, hAB, hZ⟩ := h
  exact ⟨ui, uo, uh, uc, uv, F, G, gA, gB, ⟨fun _ => rfl, fun _ => rfl, fun _ => rfl, fun _ => rfl, kS, kT, kZ⟩, hM, fun _ => (hM rfl).1, h0, h1, h2, hA, hA2, hS, hB, hB2, hT, hAB, hZ⟩
theorem ResSL.tup (h : ResSL X r v ok dM true d0 d1 d2 dA dB dS dT dZ vM vV v0 v1 v2 pA pB vZ w) : ∃ x y b, vV = .tuple #[x, y, b] := by
  obtain ⟨ui, uo, uh, uc, uv, F, G, gA, gB, ⟨kV, k0, k1, k2, kS, kT, kZ⟩, hM, hV, h0, h1, h2, hA, hA2, hS, hB, hB2, hT, hAB, hZ⟩ := h
  exact ⟨_, _, _, hV rfl⟩
theorem tuple3 {x y b x' y' b' : Value} (h : Value.tuple #[x, y, b] = .tuple #[x', y', b']) : x = x' ∧ y = y' ∧ b = b' := by
  simp only [Value.tuple.injEq, Array.mk.injEq, List.cons.injEq, and_true] at h; exact h
theorem tuple2 {x b x' b' : Value} (h : Value.tuple #[x, b] = .tuple #[x', b']) : x = x' ∧ b = b' := by
  simp only [Value.tuple.injEq, Array.mk.injEq, List.cons.injEq, and_true] at h; exact h
theorem ResSL.ex0 {x y b : Value} (h : ResSL X r v ok dM true d0 d1 d2 dA dB dS dT dZ vM (.tuple #[x, y, b]) v0 v1 v2 pA pB vZ w) : ResSL X r v ok dM true true d1 d2 dA dB dS dT dZ vM (.tuple #[x, y, b]) x v1 v2 pA pB vZ w := by
  obtain ⟨ui, uo, uh, uc, uv, F, G, gA, gB, ⟨kV, k0, k1, k2, kS, kT, kZ⟩, hM, hV, h0, h1, h2, hA, hA2, hS, hB, hB2, hT, hAB, hZ⟩ := h
  exact ⟨ui, uo, uh, uc, uv, F, G, gA, gB, ⟨kV, fun _ => rfl, k1, k2, fun q => ⟨rfl, (kS q).2⟩, kT, kZ⟩, hM, hV, fun _ => (tuple3 (hV rfl)).1, h1, h2, hA, hA2, hS, hB, hB2, hT, hAB, hZ⟩
theorem ResSL.ex1 {x y b : Value} (h : ResSL X r v ok dM true d0 d1 d2 dA dB dS dT dZ vM (.tuple #[x, y, b]) v0 v1 v2 pA pB vZ w) : ResSL X r v ok dM true d0 true d2 dA dB dS dT dZ vM (.tuple #[x, y, b]) v0 y v2 pA pB vZ w := by
  obtain ⟨ui, uo, uh, uc, uv, F, G, gA, gB, ⟨kV, k0, k1, k2, kS, kT, kZ⟩, hM, hV, h0, h1, h2, hA, hA2, hS, hB, hB2, hT, hAB, hZ⟩ := h
  exact ⟨ui, uo, uh, uc, uv, F, G, gA, gB, ⟨kV, k0, fun _ => rfl, k2, kS, fun q => ⟨rfl, (kT q).2⟩, kZ⟩, hM, hV, h0, fun _ => (tuple3 (hV rfl)).2.1, h2, hA, hA2, hS, hB, hB2, hT, hAB, hZ⟩
theorem ResSL.ex2 {x y b : Value} (h : ResSL X r v ok dM true d0 d1 d2 dA dB dS dT dZ vM (.tuple #[x, y, b]) v0 v1 v2 pA pB vZ w) : ResSL X r v ok dM true d0 d1 true dA dB dS dT dZ vM (.tuple #[x, y, b]) v0 v1 b pA pB vZ w := by
  obtain ⟨ui, uo, uh, uc, uv, F, G, gA, gB, ⟨kV, k0, k1, k2, kS, kT, kZ⟩, hM, hV, h0, h1, h2, hA, hA2, hS, hB, hB2, hT, hAB, hZ⟩ := h
  exact ⟨ui, uo, uh, uc, uv, F, G, gA, gB, ⟨kV, k0, k1, fun _ => rfl, kS, kT, fun _ => rfl⟩, hM, hV, h0, h1, fun _ => (tuple3 (hV rfl)).2.2, hA, hA2, hS, hB, hB2, hT, hAB, hZ⟩
theorem ResSL.boxA {t : TypeId} {z0 z1 z2 z3 : Value} (h : ResSL X r v ok dM dV d0 d1 d2 false dB dS dT dZ vM vV v0 v1 v2 pA pB vZ w) (hx : Below X.heap.size X w) :
    ResSL X r v ok dM dV d0 d1 d2 true dB dS dT dZ vM vV v0 v1 v2 (.pointer (some ⟨w.heap.size, 0, none⟩)) pB vZ (w.alloc (.cells #[z0, z1, z2, z3] t)) := by
  have hb : Below w.heap.size w (w.alloc (.cells #[z0, z1, z2, z3] t)) := balloc (Nat.le_refl _) (Below.refl _ _) _
  have sz := hx.size
  obtain ⟨ui, uo, uh, uc, uv, F, G, gA, gB, ⟨kV, k0, k1, k2, kS, kT, kZ⟩, hM, hV, h0, h1, h2, hA, hA2, hS, hB, hB2, hT, hAB, hZ⟩ := h
  have nS := no_of (fun q => (kS q).2) rfl
  refine ⟨ui, uo, uh, uc, uv, F, G, w.heap.size, gB, ⟨kV, k0, k1, k2, vac nS, kT, kZ⟩, fun q => ?_, hV, h0, h1, h2, fun _ => ⟨rfl, sz, by simp, ⟨by simp, by simp, by simp, by simp⟩, z0, z1, z2, z3, ⟨by simp, by simp, by simp, by simp⟩⟩, fun _ q => ?_, vac nS, fun q => (hB q).keep hb, hB2, fun q => cell_keep hb (hT q), fun _ q => ?_, hZ⟩
  · obtain ⟨e, s, t, f, g⟩ := hM q
    exact ⟨e, s.agree (SameF.of_below hb s.lim) hb.size, t.agree (SameF.of_below hb fun k q => (g k q).2.1), f, fun k q => ⟨(g k q).1, Nat.lt_of_lt_of_le (g k q).2.1 hb.size, (g k q).2.2⟩⟩
  · obtain ⟨e, s, t, f, g⟩ := hM q
    exact ⟨fun z => absurd (s.lim _ z) (Nat.lt_irrefl _), fun z => absurd (g _ z).2.1 (Nat.lt_irrefl _)⟩
  · have := (hB q).2.2.1; omega
theorem ResSL.boxB {t : TypeId} {z0 : Value} (h : ResSL X r v ok dM dV d0 d1 d2 dA false dS dT dZ vM vV v0 v1 v2 pA pB vZ w) (hx : Below X.heap.size X w) :
    ResSL X r v ok dM dV d0 d1 d2 dA true dS dT dZ vM vV v0 v1 v2 pA (.pointer (some ⟨w.heap.size, 0, none⟩)) vZ (w.alloc (.cells #[z0] t)) := by
  have hb : Below w.heap.size w (w.alloc (.cells #[z0] t)) := balloc (Nat.le_refl _) (Below.refl _ _) _
  have sz := hx.size
  obtain ⟨ui, uo, uh, uc, uv, F, G, gA, gB, ⟨kV, k0, k1, k2, kS, kT, kZ⟩, hM, hV, h0, h1, h2, hA, hA2, hS, hB, hB2, hT, hAB, hZ⟩ := h
  have nT := no_of (fun q => (kT q).2) rfl
  refine ⟨ui, uo, uh, uc, uv, F, G, gA, w.heap.size, ⟨kV, k0, k1, k2, kS, vac nT, kZ⟩, fun q => ?_, hV, h0, h1, h2, fun q => (hA q).keep hb, hA2, fun q => (hS q).keep' hb (hA (kS q).2).2.2.1, fun _ => ⟨rfl, sz, by simp, by simp, z0, by simp⟩, fun _ q => ?_, vac nT, fun q _ => ?_, hZ⟩
  · obtain ⟨e, s, t, f, g⟩ := hM q
    exact ⟨e, s.agree (SameF.of_below hb s.lim) hb.size, t.agree (SameF.of_below hb fun k q => (g k q).2.1), f, fun k q => ⟨(g k q).1, Nat.lt_of_lt_of_le (g k q).2.1 hb.size, (g k q).2.2⟩⟩
  · obtain ⟨e, s, t, f, g⟩ := hM q
    exact ⟨fun z => absurd (s.lim _ z) (Nat.lt_irrefl _), fun z => absurd (g _ z).2.1 (Nat.lt_irrefl _)⟩
  · have := (hA q).2.2.1; omega
/-- Before the system is stored: where, what, and what may be said. -/
theorem ResSL.preA (h : ResSL X r v ok dM dV true d1 d2 true dB dS dT dZ vM vV v0 v1 v2 pA pB vZ w) : ∃ g n a1 n1 k1 a2 n2 k2 a3 n3 k3 z0 z1 z2 z3, pA = .pointer (some ⟨g, 0, none⟩) ∧ v0 = .agg #[.int .i64 n, .slice a1 n1 k1, .slice a2 n2 k2, .slice a3 n3 k3] ∧ Free4 w g ∧ Box4 w g z0 z1 z2 z3 := by
  obtain ⟨ui, uo, uh, uc, uv, F, G, gA, gB, ⟨kV, k0, k1, k2, kS, kT, kZ⟩, hM, hV, h0, h1, h2, hA, hA2, hS, hB, hB2, hT, hAB, hZ⟩ := h
  obtain ⟨e, -, -, fr, z0, z1, z2, z3, b⟩ := hA rfl
  obtain ⟨-, s, -⟩ := hM (kV (k0 rfl))
  obtain ⟨a1, n1, a2, n2, a3, n3, rfl, rfl, rfl, rfl, -⟩ := s.shape
  exact ⟨gA, _, _, _, _, _, _, _, _, _, _, z0, z1, z2, z3, e, h0 rfl, fr, b⟩
theorem agg4 {a b c d a' b' c' d' : Value} (h : Value.agg #[a, b, c, d] = .agg #[a', b', c', d']) : a = a' ∧ b = b' ∧ c = c' ∧ d = d' := by
  simp only [Value.agg.injEq, Array.mk.injEq, List.cons.injEq, and_true] at h; exact h
theorem agg1 {a a' : Value} (h : Value.agg #[a] = .agg #[a']) : a = a' := by
  simp only [Value.agg.injEq, Array.mk.injEq, List.cons.injEq, and_true] at h; exact h
theorem ptr1 {g g' : Nat} (h : Value.pointer (some ⟨g, 0, none⟩) = .pointer (some ⟨g', 0, none⟩)) : g = g' := by
  simp only [Value.pointer.injEq, Option.some.injEq, Addr.mk.injEq, and_true] at h; exact h
theorem ResSL.setA {g : Nat} {u0 u1 u2 u3 : Value} (h : ResSL X r v ok true true true d1 d2 true dB dS dT dZ vM vV (.agg #[u0, u1, u2, u3]) v1 v2 (.pointer (some ⟨g, 0, none⟩)) pB vZ w) :
    X.heap.size ≤ g ∧ ResSL X r v ok true true true d1 d2 true dB true dT dZ vM vV (.agg #[u0, u1, u2, u3]) v1 v2 (.pointer (some ⟨g, 0, none⟩)) pB vZ (set4 w g u0 u1 u2 u3) := by
  obtain ⟨ui, uo, uh, uc, uv, F, G, gA, gB, ⟨kV, k0, k1, k2, kS, kT, kZ⟩, hM, hV, h0, h1, h2, hA, hA2, hS, hB, hB2, hT, hAB, hZ⟩ := h
  obtain ⟨eA, lA, mA, fA, z0, z1, z2, z3, bA⟩ := hA rfl
  obtain rfl := ptr1 eA
  obtain ⟨rfl, rfl, rfl, rfl⟩ := agg4 (h0 rfl)
  obtain ⟨nF, nG⟩ := hA2 rfl rfl
  have s4 := set4_size w g u0 u1 u2 u3
  have bx : Box4 (set4 w g u0 u1 u2 u3) g u0 u1 u2 u3 := bA.copied u0 u1 u2 u3
  refine ⟨lA, u0, u1, u2, u3, uv, F, G, g, gB, ⟨kV, k0, k1, k2, fun _ => ⟨rfl, rfl⟩, kT, kZ⟩, fun q => ?_, hV, h0, h1, h2, fun _ => ⟨rfl, lA, by omega, set4_free fA _ _ _ _, _, _, _, _, bx⟩, hA2, fun _ => bx, fun q => ?_, hB2, fun q => ?_, hAB, hZ⟩
  · obtain ⟨e, s, t, f, g'⟩ := hM q
    exact ⟨e, s.agree (fun k hk => set4_block (fun e => nF (by rw [← e]; exact hk)) _ _ _ _) (by omega), t.agree (fun k hk => set4_block (fun e => nG (by rw [← e]; exact hk)) _ _ _ _), f, fun k q => ⟨(g' k q).1, by have := (g' k q).2.1; omega, (g' k q).2.2⟩⟩
  · obtain ⟨e, l, m, fr, z, c⟩ := hB q
    exact ⟨e, l, by omega, set4_frozen fr _ _ _ _, z, set4_cell (Ne.symm (hAB rfl q)) c _ _ _ _⟩
  · exact set4_cell (Ne.symm (hAB rfl (kT q).2)) (hT q) _ _ _ _
theorem ResSL.preB (h : ResSL X r v ok dM dV d0 true d2 dA true dS dT dZ vM vV v0 v1 v2 pA pB vZ w) : ∃ g a1 n1 k1 z0, pB = .pointer (some ⟨g, 0, none⟩) ∧ v1 = .agg #[.slice a1 n1 k1] ∧ w.frozen? ⟨g, 0, none⟩ = false ∧ w.cell? ⟨g, 0, none⟩ = some z0 := by
  obtain ⟨ui, uo, uh, uc, uv, F, G, gA, gB, ⟨kV, k0, k1, k2, kS, kT, kZ⟩, hM, hV, h0, h1, h2, hA, hA2, hS, hB, hB2, hT, hAB, hZ⟩ := h
  obtain ⟨e, -, -, fr, z0, b⟩ := hB rfl
  obtain ⟨-, -, s, -⟩ := hM (kV (k1 rfl))
  obtain ⟨a1, k1, rfl, -⟩ := s.shape
  exact ⟨gB, _, _, _, z0, e, h1 rfl, fr, b⟩
theorem ResSL.setB {g : Nat} {u0 : Value} (h : ResSL X r v ok true true d0 true d2 dA true dS dT dZ vM vV v0 (.agg #[u0]) v2 pA (.pointer (some ⟨g, 0, none⟩)) vZ w) :
    X.heap.size ≤ g ∧ ResSL X r v ok true true d0 true d2 dA true dS true dZ vM vV v0 (.agg #[u0]) v2 pA (.pointer (some ⟨g, 0, none⟩)) vZ (w.setCell ⟨g, 0, none⟩ u0) := by
  obtain ⟨ui, uo, uh, uc, uv, F, G, gA, gB, ⟨kV, k0, k1, k2, kS, kT, kZ⟩, hM, hV, h0, h1, h2, hA, hA2, hS, hB, hB2, hT, hAB, hZ⟩ := h
  obtain ⟨eB, lB, mB, fB, z0, cB⟩ := hB rfl
  obtain rfl := ptr1 eB
  obtain rfl := agg1 (h1 rfl)
  obtain ⟨nF, nG⟩ := hB2 rfl rfl
  have s4 : (w.setCell ⟨g, 0, none⟩ u0).heap.size = w.heap.size := by simp
  have bk : ∀ {k}, k ≠ g → (w.setCell ⟨g, 0, none⟩ u0).heap[k]? = w.heap[k]? := fun hk => Below.heap_setCell _ _ _ _ hk
  have cx : (w.setCell ⟨g, 0, none⟩ u0).cell? ⟨g, 0, none⟩ = some u0 := World.cell?_setCell_same _ _ _ cB
  refine ⟨lB, ui, uo, uh, uc, u0, F, G, gA, g, ⟨kV, k0, k1, k2, kS, fun _ => ⟨rfl, rfl⟩, kZ⟩, fun q => ?_, hV, h0, h1, h2, fun q => ?_, hA2, fun q => (hS q).same (bk (hAB (kS q).2 rfl)), fun _ => ⟨rfl, lB, by omega, (frozen_set _).trans fB, _, cx⟩, hB2, fun _ => cx, hAB, hZ⟩
  · obtain ⟨e, s, t, f, g'⟩ := hM q
    exact ⟨e, s.agree (fun k hk => bk (fun e => nF (by rw [← e]; exact hk))) (by omega), t.agree (fun k hk => bk (fun e => nG (by rw [← e]; exact hk))), f, fun k q => ⟨(g' k q).1, by have := (g' k q).2.1; omega, (g' k q).2.2⟩⟩
  · obtain ⟨e, l, m, fr, y0, y1, y2, y3, c⟩ := hA q
    exact ⟨e, l, by omega, fr.set _ _, y0, y1, y2, y3, c.same (bk (hAB q rfl))⟩
theorem ResSL.fin (h : ResSL X r v ok dM dV d0 d1 true dA dB dS dT dZ vM vV v0 v1 v2 pA pB vZ w) : ResSL X r v ok dM dV d0 d1 true dA dB dS dT true vM vV v0 v1 v2 pA pB v2 w := by
  obtain ⟨ui, uo, uh, uc, uv, F, G, gA, gB, ⟨kV, k0, k1, k2, kS, kT, kZ⟩, hM, hV, h0, h1, h2, hA, hA2, hS, hB, hB2, hT, hAB, hZ⟩ := h
  exact ⟨ui, uo, uh, uc, uv, F, G, gA, gB, ⟨kV, k0, k1, k2, kS, kT, fun _ => rfl⟩, hM, hV, h0, h1, h2, hA, hA2, hS, hB, hB2, hT, hAB, fun _ => h2 rfl⟩
theorem ResSL.moveD (q : dM = true) (h : ResSL X r v ok dM dV d0 d1 d2 dA dB dS dT dZ vM vV v0 v1 v2 pA pB vZ w) : ResSL X r v ok dM true d0 d1 d2 dA dB dS dT dZ vM vM v0 v1 v2 pA pB vZ w := by subst q; exact h.move
theorem ResSL.tupD (q : dV = true) (h : ResSL X r v ok dM dV d0 d1 d2 dA dB dS dT dZ vM vV v0 v1 v2 pA pB vZ w) : ∃ x y b, vV = .tuple #[x, y, b] := by subst q; exact h.tup
theorem ResSL.ex0D {x y b : Value} (q : dV = true) (e : vV = .tuple #[x, y, b]) (h : ResSL X r v ok dM dV d0 d1 d2 dA dB dS dT dZ vM vV v0 v1 v2 pA pB vZ w) : ResSL X r v ok dM dV true d1 d2 dA dB dS dT dZ vM vV x v1 v2 pA pB vZ w := by subst q; subst e; exact h.ex0
theorem ResSL.ex1D {x y b : Value} (q : dV = true) (e : vV = .tuple #[x, y, b]) (h : ResSL X r v ok dM dV d0 d1 d2 dA dB dS dT dZ vM vV v0 v1 v2 pA pB vZ w) : ResSL X r v ok dM dV d0 true d2 dA dB dS dT dZ vM vV v0 y v2 pA pB vZ w := by subst q; subst e; exact h.ex1
theorem ResSL.ex2D {x y b : Value} (q : dV = true) (e : vV = .tuple #[x, y, b]) (h : ResSL X r v ok dM dV d0 d1 d2 dA dB dS dT dZ vM vV v0 v1 v2 pA pB vZ w) : ResSL X r v ok dM dV d0 d1 true dA dB dS dT dZ vM vV v0 v1 b pA pB vZ w := by subst q; subst e; exact h.ex2
theorem ResSL.preAD (q : d0 = true) (q' : dA = true) (h : ResSL X r v ok dM dV d0 d1 d2 dA dB dS dT dZ vM vV v0 v1 v2 pA pB vZ w) : ∃ g n a1 n1 k1 a2 n2 k2 a3 n3 k3 z0 z1 z2 z3, pA = .pointer (some ⟨g, 0, none⟩) ∧ v0 = .agg #[.int .i64 n, .slice a1 n1 k1, .slice a2 n2 k2, .slice a3 n3 k3] ∧ Free4 w g ∧ Box4 w g z0 z1 z2 z3 := by subst q; subst q'; exact h.preA
theorem ResSL.preBD (q : d1 = true) (q' : dB = true) (h : ResSL X r v ok dM dV d0 d1 d2 dA dB dS dT dZ vM vV v0 v1 v2 pA pB vZ w) : ∃ g a1 n1 k1 z0, pB = .pointer (some ⟨g, 0, none⟩) ∧ v1 = .agg #[.slice a1 n1 k1] ∧ w.frozen? ⟨g, 0, none⟩ = false ∧ w.cell? ⟨g, 0, none⟩ = some z0 := by subst q; subst q'; exact h.preB
theorem ResSL.up (h : ResSL X r v ok dM dV d0 d1 d2 dA dB dS dT dZ vM vV v0 v1 v2 pA pB vZ w) : (dV = true → dM = true) ∧ (d0 = true → dV = true) ∧ (d1 = true → dV = true) := by
  obtain ⟨ui, uo, uh, uc, uv, F, G, gA, gB, ⟨kV, k0, k1, k2, kS, kT, kZ⟩, hM, hV, h0, h1, h2, hA, hA2, hS, hB, hB2, hT, hAB, hZ⟩ := h
  exact ⟨kV, k0, k1⟩
theorem ResSL.upD (q : d0 = true ∨ d1 = true) (h : ResSL X r v ok dM dV d0 d1 d2 dA dB dS dT dZ vM vV v0 v1 v2 pA pB vZ w) : dM = true := h.up.1 (q.elim h.up.2.1 h.up.2.2)
theorem ResSL.setAD {g : Nat} {u0 u1 u2 u3 : Value} (q : d0 = true) (q' : dA = true) (e1 : pA = .pointer (some ⟨g, 0, none⟩)) (e2 : v0 = .agg #[u0, u1, u2, u3]) (h : ResSL X r v ok dM dV d0 d1 d2 dA dB dS dT dZ vM vV v0 v1 v2 pA pB vZ w) : X.heap.size ≤ g ∧ ResSL X r v ok dM dV d0 d1 d2 dA dB true dT dZ vM vV v0 v1 v2 pA pB vZ (set4 w g u0 u1 u2 u3) := by
  have qV := h.up.2.1 q
  have qM := h.up.1 qV
  subst q; subst q'; subst e1; subst e2; subst qV; subst qM; exact h.setA
theorem ResSL.setBD {g : Nat} {u0 : Value} (q : d1 = true) (q' : dB = true) (e1 : pB = .pointer (some ⟨g, 0, none⟩)) (e2 : v1 = .agg #[u0]) (h : ResSL X r v ok dM dV d0 d1 d2 dA dB dS dT dZ vM vV v0 v1 v2 pA pB vZ w) : X.heap.size ≤ g ∧ ResSL X r v ok dM dV d0 d1 d2 dA dB dS true dZ vM vV v0 v1 v2 pA pB vZ (w.setCell ⟨g, 0, none⟩ u0) := by
  have qV := h.up.2.2 q
  have qM := h.up.1 qV
  subst q; subst q'; subst e1; subst e2; subst qV; subst qM; exact h.setB
theorem ResSL.finD (q : d2 = true) (h : ResSL X r v ok dM dV d0 d1 d2 dA dB dS dT dZ vM vV v0 v1 v2 pA pB vZ w) : ResSL X r v ok dM dV d0 d1 d2 dA dB dS dT true vM vV v0 v1 v2 pA pB v2 w := by subst q; exact h.fin
/-- Behind the region: the answers lie in boxes of their own. -/
def CutSL (X : World) (r : SysC) (v : List T) (ok : Bool) (pA pB vZ : Value) (w : World) : Prop :=
  ∃ gA gB ui uo uh uc uv, pA = .pointer (some ⟨gA, 0, none⟩) ∧ pB = .pointer (some ⟨gB, 0, none⟩) ∧ vZ = .bool ok ∧ X.heap.size ≤ gA ∧ X.heap.size ≤ gB ∧ Box4 w gA ui uo uh uc ∧ w.cell? ⟨gB, 0, none⟩ = some uv ∧ SysR false 0 w.heap.size w ui uo uh uc r ∧ Terms false 0 w.heap.size w uv v ∧ Below X.heap.size X w
theorem ResSL.cut (h : ResSL X r v ok true dV d0 d1 d2 true true true true true vM vV v0 v1 v2 pA pB vZ w) (hx : Below X.heap.size X w) : CutSL X r v ok pA pB vZ w := by
  obtain ⟨ui, uo, uh, uc, uv, F, G, gA, gB, ⟨kV, k0, k1, k2, kS, kT, kZ⟩, hM, hV, h0, h1, h2, hA, hA2, hS, hB, hB2, hT, hAB, hZ⟩ := h
  obtain ⟨e, s, t, f, g⟩ := hM rfl
  exact ⟨gA, gB, ui, uo, uh, uc, uv, (hA rfl).1, (hB rfl).1, hZ rfl, (hA rfl).2.1, (hB rfl).2.1, hS rfl, hT rfl, s.read, t.read, hx⟩
theorem ResSL.cutD (h : ResSL X r v ok dM dV d0 d1 d2 dA dB dS dT dZ vM vV v0 v1 v2 pA pB vZ w) (hx : Below X.heap.size X w) (qM : dM = true) (qA : dA = true) (qB : dB = true) (qS : dS = true) (qT : dT = true) (qZ : dZ = true) : CutSL X r v ok pA pB vZ w := by
  subst qM; subst qA; subst qB; subst qS; subst qT; subst qZ; exact h.cut hx
end
/-- The program's answers, to be written into: a system and terms, on blocks from lo on and below hi. -/
def AnsSL (lo hi : Nat) (w : World) (ui uo uh uc uv : Value) (r : SysC) (v : List T) : Prop :=
  ∃ F G : Nat → Prop, SysF F w ui uo uh uc r ∧ TermsF true G w uv v ∧ (∀ k, F k → lo ≤ k ∧ k < hi) ∧ (∀ k, G k → lo ≤ k ∧ k < hi ∧ ¬ F k) ∧ hi ≤ w.heap.size
section
variable {lo hi : Nat} {w w' : World} {ui uo uh uc uv : Value} {r : SysC} {v : List T}
theorem AnsSL.keep {B : Nat} (h : AnsSL lo hi w ui uo uh uc uv r v) (b : Below B w w') (hB : hi ≤ B) : AnsSL lo hi w' ui uo uh uc uv r v := by
  obtain ⟨F, G, s, t, f, g, z⟩ := h
  exact ⟨F, G, s.agree (SameF.of_below b fun k q => Nat.lt_of_lt_of_le (f k q).2 hB) b.size, t.agree (SameF.of_below b fun k q => Nat.lt_of_lt_of_le (g k q).2.1 hB), f, g, Nat.le_trans z b.size⟩
theorem AnsSL.only {l h : Nat} (a : AnsSL lo hi w ui uo uh uc uv r v) (o : Only l h w w') (hd : hi ≤ l ∨ h ≤ lo) (hs : hi ≤ w.heap.size) : AnsSL lo hi w' ui uo uh uc uv r v := by
  obtain ⟨F, G, s, t, f, g, z⟩ := a
  exact ⟨F, G, s.agree (fun k q => o.block k (by have := f k q; omega) (by have := f k q; omega)) o.size, t.agree (fun k q => o.block k (by have := g k q; omega) (by have := g k q; omega)), f, g, Nat.le_trans z o.size⟩
theorem AnsSL.sys (a : AnsSL lo hi w ui uo uh uc uv r v) : SysR false 0 w.heap.size w ui uo uh uc r := by
  obtain ⟨F, G, s, t, f, g, z⟩ := a; exact s.read
theorem AnsSL.snd (a : AnsSL lo hi w ui uo uh uc uv r v) : Terms false 0 w.heap.size w uv v := by
  obtain ⟨F, G, s, t, f, g, z⟩ := a; exact t.read
theorem AnsSL.of_ext {ok : Bool} {e : Ending} (q : ExtL ok r v w e w') : ∃ ui uo uh uc uv, e = .returned (.tuple #[.agg #[ui, uo, uh, uc], .agg #[uv], .bool ok]) ∧ Below w.heap.size w w' ∧ AnsSL w.heap.size w'.heap.size w' ui uo uh uc uv r v := by
  obtain ⟨ui, uo, uh, uc, uv, F, G, rfl, hb, s, t, f, g⟩ := q
  exact ⟨ui, uo, uh, uc, uv, rfl, hb, F, G, s, t, fun k q => ⟨f k q, s.lim k q⟩, g, Nat.le_refl _⟩
end
end Go.Proofs.Ytcenijdaacbgpaa.L
