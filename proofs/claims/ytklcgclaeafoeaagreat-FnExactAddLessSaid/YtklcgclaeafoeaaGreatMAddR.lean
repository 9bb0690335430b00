/- The model's AddBits. -/
import Derived.Test.YtklcgclaeafoeaaGreatMBits
import Derived.Test.YtklcgclaeafoeaaGreatMZero
import Derived.Test.YtklcgclaeafoeaaGreatMAddS
import Derived.Test.YtklcgclaeafoeaaGreatExtR
import Derived.Test.YtklcgclaeafoeaaGreatB15
import Derived.Test.YtklcgclaeafoeaaGreatB3
import Derived.Test.YtklcgclaeafoeaaGreatRgn
import Derived.Deep.DeepCutAuto
namespace Go.Proofs.YtklcgclaeafoeaaGreat.L
open Go.RowKit Go.Proofs.YtklcgclaeafoeaaGreat.S
set_option linter.unusedVariables false
set_option linter.unusedSimpArgs false

theorem bitsK_small (s : SysC) (x : List T) (hx : x.length ≤ 1048576) (sm : Small s) : ∀ n, (∀ h ∈ (bitsK s x n).1.hints, h.a.length ≤ 1048576 ∧ h.b.length ≤ 1048576) ∧ (∀ c ∈ (bitsK s x n).1.cons, c.a.length ≤ 1048576 ∧ c.b.length ≤ 1048576 ∧ c.c.length ≤ 1048576) := by
 intro n
 induction n with
 | zero => exact ⟨sm.2.2.2.2.1, sm.2.2.2.2.2⟩
 | succ n ih =>
  refine ⟨fun h hh => ?_, fun c hc => ?_⟩
  ·rcases List.mem_append.1 (show h ∈ (bitsK s x n).1.hints ++ [⟨1, x, [], n⟩] from hh) with h1 | h1
   ·exact ih.1 h h1
   ·rw [List.mem_singleton] at h1; subst h1; exact ⟨hx, Nat.zero_le _⟩
  ·rcases List.mem_append.1 (show c ∈ (bitsK s x n).1.cons ++ [⟨sVar (bitsK s x n).1, mrg 2147483646 (sVar (bitsK s x n).1) (constOf 1), []⟩] from hc) with h1 | h1
   ·exact ih.2 c h1
   ·rw [List.mem_singleton] at h1; subst h1
    exact ⟨by simp [sVar], Nat.le_trans (mrg_length _ _ _) (by have := constOf_len 1; simp [sVar]; omega), Nat.zero_le _⟩
theorem small_bits {s : SysC} {x : List T} (sm : Small s) (hk : sysOk s = true) (nx : x.length ≤ 500000) (n : Nat) (hn : n ≤ 30) : Small (bitsS s x n) := by
 have lim := limB_facts (sysOk_limB hk)
 obtain ⟨z1, z2, z3, z4⟩ := bitsK_sizes s x n
 obtain ⟨k1, k2⟩ := bitsK_small s x (by omega) sm n
 have hp : (packS (bitsK s x n).2).length ≤ 30 := Nat.le_trans (packS_len fun b h => by rw [bitsK_one s x n b h]; exact Nat.le_refl _) (by rw [bitsK_len]; exact hn)
 refine ⟨?_, ?_, ?_, ?_, k1, fun c hc => ?_⟩
 ·show (bitsK s x n).1.outs.length ≤ _
  rw [z4]; exact sm.1
 ·show (bitsK s x n).1.hints.length ≤ _
  omega
 ·show ((bitsK s x n).1.cons ++ [_]).length ≤ _
  simp; omega
 ·show ∀ t ∈ (bitsK s x n).1.outs, _
  rw [z4]; exact sm.2.2.2.1
 ·rcases List.mem_append.1 (show c ∈ (bitsK s x n).1.cons ++ [⟨mrg 2147483646 (packS (bitsK s x n).2) x, constOf 1, []⟩] from hc) with h1 | h1
  ·exact k2 c h1
  ·rw [List.mem_singleton] at h1; subst h1
   exact ⟨show (mrg 2147483646 (packS (bitsK s x n).2) x).length ≤ 1048576 from Nat.le_trans (mrg_length _ _ _) (by omega), show (constOf 1).length ≤ 1048576 from Nat.le_trans (constOf_len _) (by omega), Nat.zero_le _⟩

/-- What the answer's last region leaves. -/
def CutO (B : Nat) (X : World) (v : List (List T)) (u0 u1 u2 u3 s7 s8 : Value) (w : World) : Prop :=
 s8 = .bool true ∧ OnlyF (fun k => k = B) X w ∧ Box4 w B u0 u1 u2 u3 ∧ ∃ a k, s7 = .slice a v.length k ∧ NewR X.heap.size (fun _ => False) w (.slice a v.length k) v
end Go.Proofs.YtklcgclaeafoeaaGreat.L
