/- The program's regrouped. -/
import Derived.Test.YtplphfgacomhkaaCodeM
namespace Go.Proofs.Ytplphfgacomhkaa.L
open Go.RowKit Go.Proofs.Ytplphfgacomhkaa.S
set_option linter.unusedVariables false
set_option linter.unusedSimpArgs false

theorem decOk_all2 {xs : List Int} (h1 : xs.length ≤ 16) (h2 : xs.length % 4 = 0) (h : ∀ x ∈ xs, 0 ≤ six x) : decOk xs = true := decide_eq_true ⟨h1, h2, h⟩
theorem p2_pos (c : Nat) : (0 : Int) < 2 ^ c := by
  have : (0 : Int) < ((2 ^ c : Nat) : Int) := by have := Nat.two_pow_pos c; omega
  rwa [Int.natCast_pow] at this
theorem wrap_small {p : Int} (h : 0 < p) (h1 : p ≤ 256) : wrap64 p = p := by unfold wrap64; omega
theorem wrap_small' {p : Int} (h : 0 < p) (h1 : p ≤ 256) : IntKind.i64.wrap p = p := by rw [IntKind.wrap_i64]; omega
theorem p2_le {c m : Nat} (h : c ≤ m) : (2 : Int) ^ c ≤ 2 ^ m := by
  have : ((2 ^ c : Nat) : Int) ≤ ((2 ^ m : Nat) : Int) := by have := Nat.pow_le_pow_right (n := 2) (by omega) h; omega
  rwa [Int.natCast_pow, Int.natCast_pow] at this
theorem drain_end {nw f n : Nat} (F : List Int) (q : Int) (h : ¬ nw ≤ n) : drain nw f F q n = (F, q, n) := by
  cases f with
  | zero => rfl
  | succ f => simp only [drain]; rw [if_neg h]
theorem drain_more {nw f c : Nat} (F : List Int) (q : Int) : drain nw (f + 1) F q (c + nw) = drain nw f (F ++ [q / 2 ^ c]) (q % 2 ^ c) c := by
  simp only [drain]
  rw [if_pos (by omega), show c + nw - nw = c from by omega]
theorem snoc_bd {F : List Int} {y m : Int} (h : ∀ x ∈ F, 0 ≤ x ∧ x ≤ m) (hy : 0 ≤ y ∧ y ≤ m) : ∀ x ∈ F ++ [y], 0 ≤ x ∧ x ≤ m := by
  intro x hx
  rcases List.mem_append.1 hx with hx | hx
  · exact h x hx
  · simp at hx; subst hx; exact hy
theorem div_p2 {q : Int} {c : Nat} (h0 : 0 ≤ q) (h1 : q ≤ 16384) : 0 ≤ q / 2 ^ c ∧ q / 2 ^ c ≤ 16384 := by
  have hp := p2_pos c
  exact ⟨Int.ediv_nonneg h0 (by omega), Int.le_trans (Int.ediv_le_self _ h0) h1⟩
theorem mod_p2 (q : Int) (c : Nat) : 0 ≤ q % 2 ^ c ∧ q % 2 ^ c < 2 ^ c := ⟨Int.emod_nonneg _ (by have := p2_pos c; omega), Int.emod_lt_of_pos _ (p2_pos c)⟩

set_option maxRecDepth 100000 in
set_option maxHeartbeats 6400000 in
theorem regr68_any (lim : Nat) (v : Value) (xs : List Int) (w : World) (t : Ints lim w v xs) (hl : lim ≤ w.heap.size) (hx : xs.length ≤ 16) (hv : V6 xs) :
    Calls Try.prog 27 #[v, .int .i64 6, .int .i64 8] w fun e w' => ∃ u, e = .returned u ∧ Below w.heap.size w w' ∧ Nums true w.heap.size w'.heap.size w' u (reg 6 8 xs).1 := by
  obtain ⟨a, ca, rfl, la, ba⟩ := t.shape
  obtain ⟨i0, hi0, hz0, hz1, hz2⟩ := info_parts intInfo
  have HV := Lib.hid hv
  clear hv
  go_enter Try.func27, Try.ntmps27
  go_wp2_with fail
  go_loopw [7, 8, 9, 14] (fun v r b i wr => ∃ (k : Nat) (q : Int) (n : Nat) (F : List Int), k ≤ xs.length ∧ i = .int .i64 k ∧ r = .int .i64 q ∧ b = .int .i64 n ∧ reg 6 8 (xs.take k) = (F, q, n) ∧ 0 ≤ q ∧ q < 2 ^ n ∧ n < 8 ∧ n % 2 = 0 ∧ F.length ≤ 4 * k ∧ (∀ x ∈ F, 0 ≤ x ∧ x ≤ 16384) ∧ Below w.heap.size w wr ∧ wr.ownsRow w.heap.size 3 1 v F.length (F.map (Value.int .i64))) (fun _ _ _ i _ => xs.length - (intOf i).toNat)
  case atStart => exact ⟨0, 0, 0, [], Nat.zero_le _, rfl, rfl, rfl, rfl, by omega, by omega, by omega, by omega, by simp, (fun x hx => by simp at hx), Below.refl _ _, World.ownsRow_nil _ _ _ _⟩
  case round =>
    obtain ⟨k, q, n, F, hk, rfl, rfl, rfl, hreg, q0, q1, hn, hn2, hF, hFx, be, hrow⟩ := hrel
    obtain ⟨wo, hwo⟩ : ∃ x, x = wr := ⟨_, rfl⟩
    subst hwo
    have HR := Lib.hid hreg
    have HF := Lib.hid hFx
    have zb := be.size
    have qb : q < 128 := by have := p2_le (c := n) (m := 7) (by omega); omega
    have q2 := Lib.hid q1
    clear hreg hFx q1
    by_cases hlt : k < xs.length
    · obtain ⟨b1, o1, x, rfl, l1, c1, e1, f1⟩ := (t.keep be hl).at hlt
      obtain ⟨x0, x1⟩ := HV.out _ (List.mem_of_getElem? e1)
      have hj := join6 (r := q) (x := x) q0 (by omega) x0 (by omega)
      have HS : Hid (reg 6 8 (xs.take (k + 1)) = drain 8 4 F (q * 64 + x) (n + 6)) := Lib.hid (by rw [take_step e1, reg_snoc, HR.out]; rfl)
      have HP : Hid (q * 64 + x < 2 ^ (n + 6)) := Lib.hid (by
        have h2 : (2 : Int) ^ (n + 6) = 2 ^ n * 64 := by rw [Int.pow_add]; rfl
        have := q2.out
        rw [h2]; omega)
      obtain ⟨T, hT⟩ : ∃ T, T = reg 6 8 (xs.take (k + 1)) := ⟨_, rfl⟩
      rw [← hT] at HS
      have HT := Lib.hid hT
      have hdk : decide ((k : Int) < (xs.length : Int)) = true := decide_eq_true (by omega)
      clear e1 hT
      go_wp2_with fail
      go_loopw [7, 8, 9] (fun v r b ws => ∃ (f n' : Nat) (q' : Int) (F' : List Int), r = .int .i64 q' ∧ b = .int .i64 n' ∧ drain 8 f F' q' n' = T ∧ 0 ≤ q' ∧ q' < 2 ^ n' ∧ n' ≤ 14 ∧ n' % 2 = 0 ∧ n' < 8 * f ∧ F'.length + f ≤ 4 * k + 4 ∧ (∀ x ∈ F', 0 ≤ x ∧ x ≤ 16384) ∧ Below w.heap.size w ws ∧ ws.ownsRow w.heap.size 3 1 v F'.length (F'.map (Value.int .i64))) (fun _ _ b _ => (intOf b).toNat)
      case atStart => exact ⟨4, n + 6, q * 64 + x, F, by go_num, by go_num, HS.out.symm, by omega, HP.out, by omega, by omega, by omega, by omega, HF.out, be, hrow⟩
      case round =>
        clear hrow
        obtain ⟨f, n', q', F', rfl, rfl, hdr, p0, p1, hn', hne, hf, hlen, hFx, bs, hrow⟩ := hrel
        have HDR := Lib.hid hdr
        have zs := bs.size
        have HFX := Lib.hid hFx
        have P1 := Lib.hid p1
        have pb : q' < 16384 := by have := p2_le (c := n') (m := 14) (by omega); omega
        clear hdr hFx p1
        by_cases hc : 8 ≤ n'
        · obtain ⟨f, rfl⟩ : ∃ f', f = f' + 1 := ⟨f - 1, by omega⟩
          have hcs : n' = 8 + 0 ∨ n' = 8 + 2 ∨ n' = 8 + 4 ∨ n' = 8 + 6 := by omega
          obtain rfl | rfl | rfl | rfl := hcs
          · have A1 : F'.length + 1 ≤ maxLen := by unfold maxLen; omega
            have A2 : (F'.length + 1) * 8 ≤ 140737488355328 := by omega
            have HN : Hid (drain 8 f (F' ++ [q']) (0) 0 = T) := Lib.hid (by have h := HDR.out; rw [show 8 + 0 = 0 + 8 from rfl, drain_more] at h; rw [← h]; simp)
            have HFN := Lib.hid (snoc_bd (y := q') HFX.out (by omega))
            have HP2 : Hid (0 < (2 : Int) ^ 0) := Lib.hid (by have h : (2 : Int) ^ 0 = 1 := rfl; rw [h]; omega)
            clear P1
            go_wp2_with (at_builtin; refine wpList_append_own _ rfl _ _ 24 rfl (w.heap.size) 3 i0 (.int .i64 0) 1 8 Try.underlying24 hi0 hz0 hz1 hz2 rfl (by decide) _ _ _ rfl (hrow.alloc _) ⟨wr.heap.size, 0, none⟩ 1 1 [.int .i64 (q')] rfl rfl (cell_one_new' _ _ _) (by simp [Value.oneCell']) A1 A2 (Nat.le_trans zs (by simp)) ?_; intro v' w5 hown' hgrow _)
            have eB : Below w.heap.size (wr.alloc (.cells #[.int .i64 (q')] 3)) w5 := (Below.refl _ _).grown hgrow (Nat.le_trans zs (by simp)) (fun j ej => (hrow.lt j ej).1)
            have be5 : Below w.heap.size w w5 := (bs.alloc zs (.cells #[.int .i64 (q')] 3)).trans eB
            clear hrow
            go_wp2_with fail
            go_roundw
            case rel => exact ⟨f, 0, 0, F' ++ [q'], rfl, rfl, HN.out, by omega, HP2.out, by omega, by omega, by omega, by simp; omega, HFN.out, be5, by simpa using hown'⟩
            case measure => simp [intOf]
          · have A1 : F'.length + 1 ≤ maxLen := by unfold maxLen; omega
            have A2 : (F'.length + 1) * 8 ≤ 140737488355328 := by omega
            have HN : Hid (drain 8 f (F' ++ [q' / 4]) (q' % 4) 2 = T) := Lib.hid (by have h := HDR.out; rw [show 8 + 2 = 2 + 8 from rfl, drain_more] at h; rw [← h]; rfl)
            have HFN := Lib.hid (snoc_bd (y := q' / 4) HFX.out (by omega))
            have HP2 : Hid (q' % 4 < (2 : Int) ^ 2) := Lib.hid (by have h : (2 : Int) ^ 2 = 4 := rfl; rw [h]; omega)
            clear P1
            go_wp2_with (at_builtin; refine wpList_append_own _ rfl _ _ 24 rfl (w.heap.size) 3 i0 (.int .i64 0) 1 8 Try.underlying24 hi0 hz0 hz1 hz2 rfl (by decide) _ _ _ rfl (hrow.alloc _) ⟨wr.heap.size, 0, none⟩ 1 1 [.int .i64 (q' / 4)] rfl rfl (cell_one_new' _ _ _) (by simp [Value.oneCell']) A1 A2 (Nat.le_trans zs (by simp)) ?_; intro v' w5 hown' hgrow _)
            have eB : Below w.heap.size (wr.alloc (.cells #[.int .i64 (q' / 4)] 3)) w5 := (Below.refl _ _).grown hgrow (Nat.le_trans zs (by simp)) (fun j ej => (hrow.lt j ej).1)
            have be5 : Below w.heap.size w w5 := (bs.alloc zs (.cells #[.int .i64 (q' / 4)] 3)).trans eB
            clear hrow
            go_wp2_with fail
            go_roundw
            case rel => exact ⟨f, 2, q' % 4, F' ++ [q' / 4], rfl, rfl, HN.out, by omega, HP2.out, by omega, by omega, by omega, by simp; omega, HFN.out, be5, by simpa using hown'⟩
            case measure => simp [intOf]
          · have A1 : F'.length + 1 ≤ maxLen := by unfold maxLen; omega
            have A2 : (F'.length + 1) * 8 ≤ 140737488355328 := by omega
            have HN : Hid (drain 8 f (F' ++ [q' / 16]) (q' % 16) 4 = T) := Lib.hid (by have h := HDR.out; rw [show 8 + 4 = 4 + 8 from rfl, drain_more] at h; rw [← h]; rfl)
            have HFN := Lib.hid (snoc_bd (y := q' / 16) HFX.out (by omega))
            have HP2 : Hid (q' % 16 < (2 : Int) ^ 4) := Lib.hid (by have h : (2 : Int) ^ 4 = 16 := rfl; rw [h]; omega)
            clear P1
            go_wp2_with (at_builtin; refine wpList_append_own _ rfl _ _ 24 rfl (w.heap.size) 3 i0 (.int .i64 0) 1 8 Try.underlying24 hi0 hz0 hz1 hz2 rfl (by decide) _ _ _ rfl (hrow.alloc _) ⟨wr.heap.size, 0, none⟩ 1 1 [.int .i64 (q' / 16)] rfl rfl (cell_one_new' _ _ _) (by simp [Value.oneCell']) A1 A2 (Nat.le_trans zs (by simp)) ?_; intro v' w5 hown' hgrow _)
            have eB : Below w.heap.size (wr.alloc (.cells #[.int .i64 (q' / 16)] 3)) w5 := (Below.refl _ _).grown hgrow (Nat.le_trans zs (by simp)) (fun j ej => (hrow.lt j ej).1)
            have be5 : Below w.heap.size w w5 := (bs.alloc zs (.cells #[.int .i64 (q' / 16)] 3)).trans eB
            clear hrow
            go_wp2_with fail
            go_roundw
            case rel => exact ⟨f, 4, q' % 16, F' ++ [q' / 16], rfl, rfl, HN.out, by omega, HP2.out, by omega, by omega, by omega, by simp; omega, HFN.out, be5, by simpa using hown'⟩
            case measure => simp [intOf]
          · have A1 : F'.length + 1 ≤ maxLen := by unfold maxLen; omega
            have A2 : (F'.length + 1) * 8 ≤ 140737488355328 := by omega
            have HN : Hid (drain 8 f (F' ++ [q' / 64]) (q' % 64) 6 = T) := Lib.hid (by have h := HDR.out; rw [show 8 + 6 = 6 + 8 from rfl, drain_more] at h; rw [← h]; rfl)
            have HFN := Lib.hid (snoc_bd (y := q' / 64) HFX.out (by omega))
            have HP2 : Hid (q' % 64 < (2 : Int) ^ 6) := Lib.hid (by have h : (2 : Int) ^ 6 = 64 := rfl; rw [h]; omega)
            clear P1
            go_wp2_with (at_builtin; refine wpList_append_own _ rfl _ _ 24 rfl (w.heap.size) 3 i0 (.int .i64 0) 1 8 Try.underlying24 hi0 hz0 hz1 hz2 rfl (by decide) _ _ _ rfl (hrow.alloc _) ⟨wr.heap.size, 0, none⟩ 1 1 [.int .i64 (q' / 64)] rfl rfl (cell_one_new' _ _ _) (by simp [Value.oneCell']) A1 A2 (Nat.le_trans zs (by simp)) ?_; intro v' w5 hown' hgrow _)
            have eB : Below w.heap.size (wr.alloc (.cells #[.int .i64 (q' / 64)] 3)) w5 := (Below.refl _ _).grown hgrow (Nat.le_trans zs (by simp)) (fun j ej => (hrow.lt j ej).1)
            have be5 : Below w.heap.size w w5 := (bs.alloc zs (.cells #[.int .i64 (q' / 64)] 3)).trans eB
            clear hrow
            go_wp2_with fail
            go_roundw
            case rel => exact ⟨f, 6, q' % 64, F' ++ [q' / 64], rfl, rfl, HN.out, by omega, HP2.out, by omega, by omega, by omega, by simp; omega, HFN.out, be5, by simpa using hown'⟩
            case measure => simp [intOf]
        · have hdc : decide ((8 : Int) ≤ (n' : Int)) = false := decide_eq_false (by omega)
          have HX : Hid (reg 6 8 (xs.take (k + 1)) = (F', q', n')) := Lib.hid (by rw [← HT.out, ← HDR.out, drain_end _ _ hc])
          go_wp2_with fail
          go_roundw
          case rel => exact ⟨k + 1, q', n', F', by omega, by go_num, rfl, rfl, HX.out, p0, P1.out, by omega, by omega, by omega, HFX.out, bs, hrow⟩
          case measure => simp [intOf]; omega
    · have hdk : decide ((k : Int) < (xs.length : Int)) = false := decide_eq_false (by omega)
      have e2 : (reg 6 8 xs).1 = F := by have := HR.out; rw [List.take_of_length_le (by omega)] at this; rw [this]
      have ht := Nums.own (ts := F) hrow (fun x hx => by have := HF.out x hx; unfold Fits; omega)
      rw [← e2] at ht
      have HT := Lib.hid ht
      clear ht hrow e2
      obtain ⟨r, cr, rfl, lr, br⟩ := HT.out.shape
      go_wp2_with fail
      go_ret
      exact ⟨_, rfl, be, HT.out⟩

set_option maxRecDepth 100000 in
set_option maxHeartbeats 6400000 in
theorem regr86_any (lim : Nat) (v : Value) (xs : List Int) (w : World) (t : Ints lim w v xs) (hl : lim ≤ w.heap.size) (hx : xs.length ≤ 16) (hv : V8 xs) :
    Calls Try.prog 27 #[v, .int .i64 8, .int .i64 6] w fun e w' => ∃ u, e = .returned u ∧ Below w.heap.size w w' ∧ Nums true w.heap.size w'.heap.size w' u (reg 8 6 xs).1 := by
  obtain ⟨a, ca, rfl, la, ba⟩ := t.shape
  obtain ⟨i0, hi0, hz0, hz1, hz2⟩ := info_parts intInfo
  have HV := Lib.hid hv
  clear hv
  go_enter Try.func27, Try.ntmps27
  go_wp2_with fail
  go_loopw [7, 8, 9, 14] (fun v r b i wr => ∃ (k : Nat) (q : Int) (n : Nat) (F : List Int), k ≤ xs.length ∧ i = .int .i64 k ∧ r = .int .i64 q ∧ b = .int .i64 n ∧ reg 8 6 (xs.take k) = (F, q, n) ∧ 0 ≤ q ∧ q < 2 ^ n ∧ n < 6 ∧ n % 2 = 0 ∧ F.length ≤ 4 * k ∧ (∀ x ∈ F, 0 ≤ x ∧ x ≤ 16384) ∧ Below w.heap.size w wr ∧ wr.ownsRow w.heap.size 3 1 v F.length (F.map (Value.int .i64))) (fun _ _ _ i _ => xs.length - (intOf i).toNat)
  case atStart => exact ⟨0, 0, 0, [], Nat.zero_le _, rfl, rfl, rfl, rfl, by omega, by omega, by omega, by omega, by simp, (fun x hx => by simp at hx), Below.refl _ _, World.ownsRow_nil _ _ _ _⟩
  case round =>
    obtain ⟨k, q, n, F, hk, rfl, rfl, rfl, hreg, q0, q1, hn, hn2, hF, hFx, be, hrow⟩ := hrel
    obtain ⟨wo, hwo⟩ : ∃ x, x = wr := ⟨_, rfl⟩
    subst hwo
    have HR := Lib.hid hreg
    have HF := Lib.hid hFx
    have zb := be.size
    have qb : q < 128 := by have := p2_le (c := n) (m := 7) (by omega); omega
    have q2 := Lib.hid q1
    clear hreg hFx q1
    by_cases hlt : k < xs.length
    · obtain ⟨b1, o1, x, rfl, l1, c1, e1, f1⟩ := (t.keep be hl).at hlt
      obtain ⟨x0, x1⟩ := HV.out _ (List.mem_of_getElem? e1)
      have hj := join8 (r := q) (x := x) q0 (by omega) x0 (by omega)
      have HS : Hid (reg 8 6 (xs.take (k + 1)) = drain 6 4 F (q * 256 + x) (n + 8)) := Lib.hid (by rw [take_step e1, reg_snoc, HR.out]; rfl)
      have HP : Hid (q * 256 + x < 2 ^ (n + 8)) := Lib.hid (by
        have h2 : (2 : Int) ^ (n + 8) = 2 ^ n * 256 := by rw [Int.pow_add]; rfl
        have := q2.out
        rw [h2]; omega)
      obtain ⟨T, hT⟩ : ∃ T, T = reg 8 6 (xs.take (k + 1)) := ⟨_, rfl⟩
      rw [← hT] at HS
      have HT := Lib.hid hT
      have hdk : decide ((k : Int) < (xs.length : Int)) = true := decide_eq_true (by omega)
      clear e1 hT
      go_wp2_with fail
      go_loopw [7, 8, 9] (fun v r b ws => ∃ (f n' : Nat) (q' : Int) (F' : List Int), r = .int .i64 q' ∧ b = .int .i64 n' ∧ drain 6 f F' q' n' = T ∧ 0 ≤ q' ∧ q' < 2 ^ n' ∧ n' ≤ 14 ∧ n' % 2 = 0 ∧ n' < 6 * f ∧ F'.length + f ≤ 4 * k + 4 ∧ (∀ x ∈ F', 0 ≤ x ∧ x ≤ 16384) ∧ Below w.heap.size w ws ∧ ws.ownsRow w.heap.size 3 1 v F'.length (F'.map (Value.int .i64))) (fun _ _ b _ => (intOf b).toNat)
      case atStart => exact ⟨4, n + 8, q * 256 + x, F, by go_num, by go_num, HS.out.symm, by omega, HP.out, by omega, by omega, by omega, by omega, HF.out, be, hrow⟩
      case round =>
        clear hrow
        obtain ⟨f, n', q', F', rfl, rfl, hdr, p0, p1, hn', hne, hf, hlen, hFx, bs, hrow⟩ := hrel
        have HDR := Lib.hid hdr
        have zs := bs.size
        have HFX := Lib.hid hFx
        have P1 := Lib.hid p1
        have pb : q' < 16384 := by have := p2_le (c := n') (m := 14) (by omega); omega
        clear hdr hFx p1
        by_cases hc : 6 ≤ n'
        · obtain ⟨f, rfl⟩ : ∃ f', f = f' + 1 := ⟨f - 1, by omega⟩
          have hcs : n' = 6 + 0 ∨ n' = 6 + 2 ∨ n' = 6 + 4 ∨ n' = 6 + 6 ∨ n' = 6 + 8 := by omega
          obtain rfl | rfl | rfl | rfl | rfl := hcs
          · have A1 : F'.length + 1 ≤ maxLen := by unfold maxLen; omega
            have A2 : (F'.length + 1) * 8 ≤ 140737488355328 := by omega
            have HN : Hid (drain 6 f (F' ++ [q']) (0) 0 = T) := Lib.hid (by have h := HDR.out; rw [show 6 + 0 = 0 + 6 from rfl, drain_more] at h; rw [← h]; simp)
            have HFN := Lib.hid (snoc_bd (y := q') HFX.out (by omega))
            have HP2 : Hid (0 < (2 : Int) ^ 0) := Lib.hid (by have h : (2 : Int) ^ 0 = 1 := rfl; rw [h]; omega)
            clear P1
            go_wp2_with (at_builtin; refine wpList_append_own _ rfl _ _ 24 rfl (w.heap.size) 3 i0 (.int .i64 0) 1 8 Try.underlying24 hi0 hz0 hz1 hz2 rfl (by decide) _ _ _ rfl (hrow.alloc _) ⟨wr.heap.size, 0, none⟩ 1 1 [.int .i64 (q')] rfl rfl (cell_one_new' _ _ _) (by simp [Value.oneCell']) A1 A2 (Nat.le_trans zs (by simp)) ?_; intro v' w5 hown' hgrow _)
            have eB : Below w.heap.size (wr.alloc (.cells #[.int .i64 (q')] 3)) w5 := (Below.refl _ _).grown hgrow (Nat.le_trans zs (by simp)) (fun j ej => (hrow.lt j ej).1)
            have be5 : Below w.heap.size w w5 := (bs.alloc zs (.cells #[.int .i64 (q')] 3)).trans eB
            clear hrow
            go_wp2_with fail
            go_roundw
            case rel => exact ⟨f, 0, 0, F' ++ [q'], rfl, rfl, HN.out, by omega, HP2.out, by omega, by omega, by omega, by simp; omega, HFN.out, be5, by simpa using hown'⟩
            case measure => simp [intOf]
          · have A1 : F'.length + 1 ≤ maxLen := by unfold maxLen; omega
            have A2 : (F'.length + 1) * 8 ≤ 140737488355328 := by omega
            have HN : Hid (drain 6 f (F' ++ [q' / 4]) (q' % 4) 2 = T) := Lib.hid (by have h := HDR.out; rw [show 6 + 2 = 2 + 6 from rfl, drain_more] at h; rw [← h]; rfl)
            have HFN := Lib.hid (snoc_bd (y := q' / 4) HFX.out (by omega))
            have HP2 : Hid (q' % 4 < (2 : Int) ^ 2) := Lib.hid (by have h : (2 : Int) ^ 2 = 4 := rfl; rw [h]; omega)
            clear P1
            go_wp2_with (at_builtin; refine wpList_append_own _ rfl _ _ 24 rfl (w.heap.size) 3 i0 (.int .i64 0) 1 8 Try.underlying24 hi0 hz0 hz1 hz2 rfl (by decide) _ _ _ rfl (hrow.alloc _) ⟨wr.heap.size, 0, none⟩ 1 1 [.int .i64 (q' / 4)] rfl rfl (cell_one_new' _ _ _) (by simp [Value.oneCell']) A1 A2 (Nat.le_trans zs (by simp)) ?_; intro v' w5 hown' hgrow _)
            have eB : Below w.heap.size (wr.alloc (.cells #[.int .i64 (q' / 4)] 3)) w5 := (Below.refl _ _).grown hgrow (Nat.le_trans zs (by simp)) (fun j ej => (hrow.lt j ej).1)
            have be5 : Below w.heap.size w w5 := (bs.alloc zs (.cells #[.int .i64 (q' / 4)] 3)).trans eB
            clear hrow
            go_wp2_with fail
            go_roundw
            case rel => exact ⟨f, 2, q' % 4, F' ++ [q' / 4], rfl, rfl, HN.out, by omega, HP2.out, by omega, by omega, by omega, by simp; omega, HFN.out, be5, by simpa using hown'⟩
            case measure => simp [intOf]
          · have A1 : F'.length + 1 ≤ maxLen := by unfold maxLen; omega
            have A2 : (F'.length + 1) * 8 ≤ 140737488355328 := by omega
            have HN : Hid (drain 6 f (F' ++ [q' / 16]) (q' % 16) 4 = T) := Lib.hid (by have h := HDR.out; rw [show 6 + 4 = 4 + 6 from rfl, drain_more] at h; rw [← h]; rfl)
            have HFN := Lib.hid (snoc_bd (y := q' / 16) HFX.out (by omega))
            have HP2 : Hid (q' % 16 < (2 : Int) ^ 4) := Lib.hid (by have h : (2 : Int) ^ 4 = 16 := rfl; rw [h]; omega)
            clear P1
            go_wp2_with (at_builtin; refine wpList_append_own _ rfl _ _ 24 rfl (w.heap.size) 3 i0 (.int .i64 0) 1 8 Try.underlying24 hi0 hz0 hz1 hz2 rfl (by decide) _ _ _ rfl (hrow.alloc _) ⟨wr.heap.size, 0, none⟩ 1 1 [.int .i64 (q' / 16)] rfl rfl (cell_one_new' _ _ _) (by simp [Value.oneCell']) A1 A2 (Nat.le_trans zs (by simp)) ?_; intro v' w5 hown' hgrow _)
            have eB : Below w.heap.size (wr.alloc (.cells #[.int .i64 (q' / 16)] 3)) w5 := (Below.refl _ _).grown hgrow (Nat.le_trans zs (by simp)) (fun j ej => (hrow.lt j ej).1)
            have be5 : Below w.heap.size w w5 := (bs.alloc zs (.cells #[.int .i64 (q' / 16)] 3)).trans eB
            clear hrow
            go_wp2_with fail
            go_roundw
            case rel => exact ⟨f, 4, q' % 16, F' ++ [q' / 16], rfl, rfl, HN.out, by omega, HP2.out, by omega, by omega, by omega, by simp; omega, HFN.out, be5, by simpa using hown'⟩
            case measure => simp [intOf]
          · have A1 : F'.length + 1 ≤ maxLen := by unfold maxLen; omega
            have A2 : (F'.length + 1) * 8 ≤ 140737488355328 := by omega
            have HN : Hid (drain 6 f (F' ++ [q' / 64]) (q' % 64) 6 = T) := Lib.hid (by have h := HDR.out; rw [show 6 + 6 = 6 + 6 from rfl, drain_more] at h; rw [← h]; rfl)
            have HFN := Lib.hid (snoc_bd (y := q' / 64) HFX.out (by omega))
            have HP2 : Hid (q' % 64 < (2 : Int) ^ 6) := Lib.hid (by have h : (2 : Int) ^ 6 = 64 := rfl; rw [h]; omega)
            clear P1
            go_wp2_with (at_builtin; refine wpList_append_own _ rfl _ _ 24 rfl (w.heap.size) 3 i0 (.int .i64 0) 1 8 Try.underlying24 hi0 hz0 hz1 hz2 rfl (by decide) _ _ _ rfl (hrow.alloc _) ⟨wr.heap.size, 0, none⟩ 1 1 [.int .i64 (q' / 64)] rfl rfl (cell_one_new' _ _ _) (by simp [Value.oneCell']) A1 A2 (Nat.le_trans zs (by simp)) ?_; intro v' w5 hown' hgrow _)
            have eB : Below w.heap.size (wr.alloc (.cells #[.int .i64 (q' / 64)] 3)) w5 := (Below.refl _ _).grown hgrow (Nat.le_trans zs (by simp)) (fun j ej => (hrow.lt j ej).1)
            have be5 : Below w.heap.size w w5 := (bs.alloc zs (.cells #[.int .i64 (q' / 64)] 3)).trans eB
            clear hrow
            go_wp2_with fail
            go_roundw
            case rel => exact ⟨f, 6, q' % 64, F' ++ [q' / 64], rfl, rfl, HN.out, by omega, HP2.out, by omega, by omega, by omega, by simp; omega, HFN.out, be5, by simpa using hown'⟩
            case measure => simp [intOf]
          · have A1 : F'.length + 1 ≤ maxLen := by unfold maxLen; omega
            have A2 : (F'.length + 1) * 8 ≤ 140737488355328 := by omega
            have HN : Hid (drain 6 f (F' ++ [q' / 256]) (q' % 256) 8 = T) := Lib.hid (by have h := HDR.out; rw [show 6 + 8 = 8 + 6 from rfl, drain_more] at h; rw [← h]; rfl)
            have HFN := Lib.hid (snoc_bd (y := q' / 256) HFX.out (by omega))
            have HP2 : Hid (q' % 256 < (2 : Int) ^ 8) := Lib.hid (by have h : (2 : Int) ^ 8 = 256 := rfl; rw [h]; omega)
            clear P1
            go_wp2_with (at_builtin; refine wpList_append_own _ rfl _ _ 24 rfl (w.heap.size) 3 i0 (.int .i64 0) 1 8 Try.underlying24 hi0 hz0 hz1 hz2 rfl (by decide) _ _ _ rfl (hrow.alloc _) ⟨wr.heap.size, 0, none⟩ 1 1 [.int .i64 (q' / 256)] rfl rfl (cell_one_new' _ _ _) (by simp [Value.oneCell']) A1 A2 (Nat.le_trans zs (by simp)) ?_; intro v' w5 hown' hgrow _)
            have eB : Below w.heap.size (wr.alloc (.cells #[.int .i64 (q' / 256)] 3)) w5 := (Below.refl _ _).grown hgrow (Nat.le_trans zs (by simp)) (fun j ej => (hrow.lt j ej).1)
            have be5 : Below w.heap.size w w5 := (bs.alloc zs (.cells #[.int .i64 (q' / 256)] 3)).trans eB
            clear hrow
            go_wp2_with fail
            go_roundw
            case rel => exact ⟨f, 8, q' % 256, F' ++ [q' / 256], rfl, rfl, HN.out, by omega, HP2.out, by omega, by omega, by omega, by simp; omega, HFN.out, be5, by simpa using hown'⟩
            case measure => simp [intOf]
        · have hdc : decide ((6 : Int) ≤ (n' : Int)) = false := decide_eq_false (by omega)
          have HX : Hid (reg 8 6 (xs.take (k + 1)) = (F', q', n')) := Lib.hid (by rw [← HT.out, ← HDR.out, drain_end _ _ hc])
          go_wp2_with fail
          go_roundw
          case rel => exact ⟨k + 1, q', n', F', by omega, by go_num, rfl, rfl, HX.out, p0, P1.out, by omega, by omega, by omega, HFX.out, bs, hrow⟩
          case measure => simp [intOf]; omega
    · have hdk : decide ((k : Int) < (xs.length : Int)) = false := decide_eq_false (by omega)
      have e2 : (reg 8 6 xs).1 = F := by have := HR.out; rw [List.take_of_length_le (by omega)] at this; rw [this]
      have ht := Nums.own (ts := F) hrow (fun x hx => by have := HF.out x hx; unfold Fits; omega)
      rw [← e2] at ht
      have HT := Lib.hid ht
      clear ht hrow e2
      obtain ⟨r, cr, rfl, lr, br⟩ := HT.out.shape
      go_wp2_with fail
      go_ret
      exact ⟨_, rfl, be, HT.out⟩

end Go.Proofs.Ytplphfgacomhkaa.L
