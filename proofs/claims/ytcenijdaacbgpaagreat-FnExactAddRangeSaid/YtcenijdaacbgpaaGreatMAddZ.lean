/- AddZero: the model (written by tools/gen/addz.py). -/
import Derived.Test.YtcenijdaacbgpaaGreatB15
import Derived.Test.YtcenijdaacbgpaaGreatMZero
import Derived.Test.YtcenijdaacbgpaaGreatMAddS
import Derived.Test.YtcenijdaacbgpaaGreatSame5z
import Derived.Deep.DeepCutAuto
namespace Go.Proofs.YtcenijdaacbgpaaGreat.L
open Go.RowKit Go.Proofs.YtcenijdaacbgpaaGreat.S
set_option linter.unusedVariables false
set_option linter.unusedSimpArgs false

theorem small_zero {s : SysC} {x : List T} (sm : Small s) (hk : sysOk s = true) (nx : x.length ≤ 1048576) : Small (zeroS s x) := by
 have lim := limB_facts (sysOk_limB hk)
 obtain ⟨a1, a2, a3, a4, a5, a6⟩ := sm
 have hz : (zeroZ s x).length ≤ 1048576 := by unfold zeroZ; exact Nat.le_trans (mrg_length _ _ _) (by have := constOf_len 1; simp [sVar]; omega)
 refine ⟨a1, ?_, ?_, a4, fun h hh => ?_, fun c hc => ?_⟩
 ·show ((s.hints ++ [_]) ++ [_]).length ≤ _
  simp; omega
 ·show ((s.cons ++ [_]) ++ [_]).length ≤ _
  simp; omega
 ·rcases List.mem_append.1 (show h ∈ (s.hints ++ [⟨2, x, [], 0⟩]) ++ [⟨0, x, sVar s, 0⟩] from hh) with h1 | h1
  ·rcases List.mem_append.1 h1 with h1 | h1
   ·exact a5 h h1
   ·rw [List.mem_singleton] at h1; subst h1; exact ⟨nx, Nat.zero_le _⟩
  ·rw [List.mem_singleton] at h1; subst h1; exact ⟨nx, by simp [sVar]⟩
 ·rcases List.mem_append.1 (show c ∈ (s.cons ++ [⟨x, sVar s, sVar (sHint s ⟨2, x, [], 0⟩)⟩]) ++ [⟨x, zeroZ s x, []⟩] from hc) with h1 | h1
  ·rcases List.mem_append.1 h1 with h1 | h1
   ·exact a6 c h1
   ·rw [List.mem_singleton] at h1; subst h1; exact ⟨nx, by simp [sVar], by simp [sVar]⟩
  ·rw [List.mem_singleton] at h1; subst h1; exact ⟨nx, hz, Nat.zero_le _⟩

theorem size_of2 {s t r : SysC} {m k : Bool} {n : Nat} (h : r = if m = true then (if k = true then t else s) else sys0) (hs : m = true → totS t ≤ totS s + n) : totS r ≤ totS s + n := by
 subst h
 cases m
 ·simp; have : totS sys0 = 0 := rfl; omega
 ·cases k
  ·simp
  ·simpa using hs rfl
theorem may_len {s : SysC} {ls : List (List T)} (h : mayL s ls = true) {x : List T} (hx : x ∈ ls) : x.length ≤ 3000 := linOk_length (linW_ok ((mayL_in h).2 x hx))
end Go.Proofs.YtcenijdaacbgpaaGreat.L
