/- What laws of gates draw and hand over: a number out of the code, rows of one. -/
import Derived.Test.YtcenijdaacbgpaaB25
import Derived.Test.YtcenijdaacbgpaaB31
namespace Go.Proofs.Ytcenijdaacbgpaa.L
open Go.RowKit Go.Proofs.Ytcenijdaacbgpaa.S
set_option linter.unusedVariables false
set_option linter.unusedSimpArgs false

theorem sysI1_sysA : sysOk (sysI 1) = true := by kernel_rfl
theorem row_wide2A {B B' : Nat} {w : World} {a : Option Addr} {len : Nat} (h : Row B w a len) (hb : B ≤ B') : Row B' w a len := by
  obtain ⟨h1, h2⟩ := h
  refine ⟨h1, ?_⟩
  rcases h2 with h2 | ⟨b, off, e, hl, hc⟩
  · exact .inl h2
  · exact .inr ⟨b, off, e, by omega, hc⟩
theorem lin1A {w : World} {b h : Nat} {v : Value} {z : List T} (t : Terms false 0 h w v z) (hh : h ≤ w.heap.size) (c0 : w.cell? ⟨b, 0, none⟩ = some v) (hb : b < w.heap.size) : LinS false 0 w.heap.size w (.slice (some ⟨b, 0, none⟩) 1 1) [z] := by
  refine ⟨_, 1, rfl, Nat.le_refl _, by omega, .inr ⟨b, 0, rfl, Nat.zero_le _, hb, (fun q => by cases q), fun _ => [v], fun _ => 0, fun _ => h, (fun q => by cases q), fun j x hj => ?_⟩⟩
  match j, hj with
  | 0, hj =>
    simp at hj; subst hj
    refine ⟨Nat.le_refl _, hh, fun f c hfc => ?_, v, rfl, t⟩
    match f, hfc with
    | 0, hfc => simp at hfc; subst hfc; simpa using c0
set_option maxRecDepth 100000 in
set_option maxHeartbeats 3200000 in
theorem at_anyA (a : Option Addr) (len cap i : Nat) (hi : i ≤ 30) (w : World) (hr : Row w.heap.size w a len) :
    Calls Try.prog 7 #[.slice a len cap, .int .i64 (i : Int)] w fun e w' => ∃ n : Int, e = .returned (.int .i64 n) ∧ 0 ≤ n ∧ n ≤ 255 ∧ w = w' := by
  obtain ⟨hl, hr⟩ := hr
  unfold maxLen at hl
  by_cases h0 : len = 0
  · subst h0
    go_enter Try.func7, Try.ntmps7
    go_wp2_with fail
    go_ret
    exact ⟨0, rfl, by omega, by omega, rfl⟩
  · rcases hr with hr | ⟨b, off, rfl, hb, hc⟩
    · exact absurd hr h0
    have hm : i % len < len := Nat.mod_lt _ (by omega)
    obtain ⟨n, n0, n1, hn⟩ := hc (i % len) hm
    have e1 : ((len : Int) == 0) = false := by simp; omega
    obtain ⟨r, hr⟩ : ∃ r : Int, (i : Int) % (len : Int) = r := ⟨_, rfl⟩
    have hr2 : r = ((i % len : Nat) : Int) := by rw [← hr]; omega
    have e3 : r.toNat = i % len := by omega
    have e4 : 0 ≤ r := by omega
    have e5 : r < (len : Int) := by omega
    have hn' : w.cell? ⟨b, off + r.toNat, none⟩ = some (.int .u8 n) := by rw [e3]; exact hn
    clear hn hr2 e3
    have e6 : ¬ (len : Int) = 0 := by omega
    go_enter Try.func7, Try.ntmps7
    go_wp2_with fail
    go_ret
    exact ⟨n, rfl, n0, n1, rfl⟩
theorem ints1A {w : World} {b : Nat} {x : Int} (fx : Fits x) (c0 : w.cell? ⟨b, 0, none⟩ = some (.int .i64 x)) (hb : b < w.heap.size) : Ints w.heap.size w (.slice (some ⟨b, 0, none⟩) 1 1) [x] := by
  refine ⟨_, _, rfl, by simp, by omega, fun z hz => ?_, .inr ⟨b, 0, rfl, hb, fun j z hj => ?_⟩⟩
  · rw [List.mem_singleton] at hz; rw [hz]; exact fx
  · match j, hj with
    | 0, hj => simp at hj; subst hj; exact c0
end Go.Proofs.Ytcenijdaacbgpaa.L
