/- What the builder adds and what the model adds are the same: AddMux, AddXor. -/
import Derived.Test.YtfkffadpnhfiaaaSame5
import Derived.Test.YtfkffadpnhfiaaaBGate
import Derived.Test.YtfkffadpnhfiaaaMGate2
namespace Go.Proofs.Ytfkffadpnhfiaaa.L
open Go.RowKit Go.Proofs.Ytfkffadpnhfiaaa.S
set_option linter.unusedVariables false
set_option linter.unusedSimpArgs false

theorem addMux_answers (s : SysC) (z x y : List T) :
    (mayL s [z, x, y] && bOk (muxB s ⟨[], [], 0⟩ z x y)) = (mayL s [z, x, y] && sysOk (muxS s z x y)) ∧
    (if mayL s [z, x, y] = true then bSys s (muxB s ⟨[], [], 0⟩ z x y) else sys0) = (if mayL s [z, x, y] = true then (if sysOk (muxS s z x y) = true then muxS s z x y else s) else sys0) ∧
    (if (mayL s [z, x, y] && bOk (muxB s ⟨[], [], 0⟩ z x y)) = true then muxBZ s ⟨[], [], 0⟩ y else []) = (if (mayL s [z, x, y] && sysOk (muxS s z x y)) = true then muxZ s y else []) :=
  answers3 fun hm => by
    obtain ⟨hs, hl⟩ := mayL_in hm
    have hz := hl z (by simp)
    have hx := hl x (by simp)
    have hy := hl y (by simp)
    obtain ⟨h1, h2⟩ := (Sim.start hs).mul (x := z) (x' := z) (y := mrg 2147483646 x y) (y' := lcomb 2147483646 x y) (fun _ => ⟨rfl, hz⟩) (fun _ => ⟨lcomb_mrg hx hy, linW_mrg hx hy⟩)
    refine ⟨h1, fun r => ?_⟩
    obtain ⟨e, h3⟩ := h2 r
    unfold muxBZ muxZ
    rw [e]
    exact lcomb_mrg (linW_mono hy (by show varsN s ≤ varsN (mulS s z _); rw [varsN_mul]; omega)) h3
theorem mrg_one {k k' n a a' : Int} (h : a * k % 2147483647 = a' * k' % 2147483647) : ∀ z : List T, mrg k z [(n, a)] = mrg k' z [(n, a')]
  | [] => by rw [mrg_b, mrg_b, mrg_nil, mrg_nil]; simp only [tm]; rw [h]
  | t :: r => by
    by_cases h1 : t.1 < n
    · rw [mrg_lt _ _ _ _ _ h1, mrg_lt _ _ _ _ _ h1, mrg_one h r]
    · by_cases h2 : n < t.1
      · rw [mrg_gt _ _ _ _ _ h2, mrg_gt _ _ _ _ _ h2, mrg_nil2 k k' (t :: r)]; simp only [tm]; rw [h]
      · rw [mrg_eq _ _ _ _ _ (show t.1 = (n, a).1 by simp only; omega), mrg_eq _ _ _ _ _ (show t.1 = (n, a').1 by simp only; omega), mrg_nil2 k k' r]; simp only [tm, pl]; rw [h]
where
  mrg_nil2 (k k' : Int) : ∀ z : List T, mrg k z [] = mrg k' z []
  | [] => by rw [mrg_nil, mrg_nil]
  | t :: r => by rw [mrg_a, mrg_a, mrg_nil2 k k' r]
theorem mrg_two {n : Int} (h : 0 ≤ n) : mrg 2 [] [(n, 1)] = [(n, 2)] := by rw [mrg_b, mrg_nil]; rfl
theorem addXor_answers (s : SysC) (x y : List T) :
    (mayL s [x, y] && bOk (xorB s ⟨[], [], 0⟩ x y)) = (mayL s [x, y] && sysOk (mulS s x y)) ∧
    (if mayL s [x, y] = true then bSys s (xorB s ⟨[], [], 0⟩ x y) else sys0) = (if mayL s [x, y] = true then (if sysOk (mulS s x y) = true then mulS s x y else s) else sys0) ∧
    (if (mayL s [x, y] && bOk (xorB s ⟨[], [], 0⟩ x y)) = true then xorBZ s ⟨[], [], 0⟩ x y else []) = (if (mayL s [x, y] && sysOk (mulS s x y)) = true then xorZ s x y else []) :=
  answers3 fun hm => by
    obtain ⟨hs, hl⟩ := mayL_in hm
    have hx := hl x (by simp)
    have hy := hl y (by simp)
    obtain ⟨h1, h2⟩ := (Sim.start hs).mul (x := x) (x' := x) (y := y) (y' := y) (fun _ => ⟨rfl, hx⟩) (fun _ => ⟨rfl, hy⟩)
    refine ⟨h1, fun r => ?_⟩
    obtain ⟨e, h3⟩ := h2 r
    have hn := varsN_mul s x y
    have r1 := r.1
    rw [hn] at h3 r1
    unfold xorBZ xorZ
    rw [e, lcomb_mrg hx hy, lcomb_mrg (linW_nil (varsN s + 1)) h3]
    unfold sVar at h3 ⊢
    rw [mrg_two (by have := vars_pos hs; omega)]
    rw [lcomb_mrg (linW_mono (linW_mrg hx hy) (by omega : varsN s ≤ varsN s + 1)) (by
      refine linW_iff.2 ⟨?_, fun t ht => by rw [List.mem_singleton] at ht; subst ht; show varsN s < varsN s + 1; omega⟩
      have := vars_pos hs
      unfold linOk okFrom
      simp [okFrom]
      omega)]
    exact mrg_one (by rfl) _
end Go.Proofs.Ytfkffadpnhfiaaa.L
