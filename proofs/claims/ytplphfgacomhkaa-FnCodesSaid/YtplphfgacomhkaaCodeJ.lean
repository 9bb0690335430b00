/- The program's Decode64 and Encode64. -/
import Derived.Test.YtplphfgacomhkaaCodeI
namespace Go.Proofs.Ytplphfgacomhkaa.L
open Go.RowKit Go.Proofs.Ytplphfgacomhkaa.S
set_option linter.unusedVariables false
set_option linter.unusedSimpArgs false

theorem six_snoc {xs : List Int} {k : Nat} {x : Int} (h : xs[k]? = some x) : (xs.take (k + 1)).map six = (xs.take k).map six ++ [six x] := by rw [take_step h, List.map_append]; rfl
theorem okD_snoc {xs : List Int} {k : Nat} {x : Int} (h : xs[k]? = some x) (a : ∀ y ∈ xs.take k, 0 ≤ six y) (b : 0 ≤ six x) : ∀ y ∈ xs.take (k + 1), 0 ≤ six y := by
  intro y hy
  rw [take_step h] at hy
  rcases List.mem_append.1 hy with hy | hy
  · exact a y hy
  · simp at hy; subst hy; exact b
theorem decOk_mem {xs : List Int} {x : Int} (h : x ∈ xs) (b : six x < 0) : decOk xs = false := by
  unfold decOk
  rw [decide_eq_false_iff_not]
  intro ⟨_, _, h3⟩
  have := h3 _ h
  omega
set_option maxRecDepth 100000 in
set_option maxHeartbeats 6400000 in
theorem decode_impl (lim : Nat) (v : Value) (xs : List Int) (w : World) (t : Ints lim w v xs) (hl : lim ≤ w.heap.size) :
    Calls Try.prog 15 #[v] w (ResNO w (decOk xs) (decL xs)) := by
  obtain ⟨a, ca, rfl, la, ba⟩ := t.shape
  obtain ⟨i0, hi0, hz0, hz1, hz2⟩ := info_parts intInfo
  unfold ResNO
  by_cases h0 : 16 < xs.length
  · have E1 := Lib.hid (decOk_len h0)
    go_enter Try.func15, Try.ntmps15
    go_wp2_with fail
    go_ret2
    exact ⟨_, by rw [E1.out]; rfl, Below.refl _ _, by rw [decL_no E1.out]; exact Nums.nil _ _ _ _⟩
  have hd0 : decide (16 < (xs.length : Int)) = false := decide_eq_false (by omega)
  by_cases h1 : xs.length % 4 = 0
  case' neg =>
    have hr : ((xs.length : Int) % 4 != 0) = true := by simp; omega
    have E1 := Lib.hid (decOk_size (xs := xs) (by omega))
    clear h1
    go_enter Try.func15, Try.ntmps15
    go_wp2_with fail
    go_ret2
    exact ⟨_, by rw [E1.out]; rfl, Below.refl _ _, by rw [decL_no E1.out]; exact Nums.nil _ _ _ _⟩
  have hr : ((xs.length : Int) % 4 != 0) = false := by simp; omega
  have HM4 := Lib.hid h1
  clear h1
  go_enter Try.func15, Try.ntmps15
  go_wp2_with fail
  go_loopw [4, 19] (fun v i wr => ∃ k : Nat, k ≤ xs.length ∧ i = .int .i64 k ∧ (∀ y ∈ xs.take k, 0 ≤ six y) ∧ Below w.heap.size w wr ∧ wr.ownsRow w.heap.size 3 1 v ((xs.take k).map six).length (((xs.take k).map six).map (Value.int .i64))) (fun _ i _ => xs.length - (intOf i).toNat)
  case atStart => exact ⟨0, Nat.zero_le _, rfl, (fun y hy => by simp at hy), Below.refl _ _, World.ownsRow_nil _ _ _ _⟩
  case round =>
    obtain ⟨k, hk, rfl, hok, be, hrow⟩ := hrel
    have HO := Lib.hid hok
    have zb := be.size
    clear hok
    by_cases hlt : k < xs.length
    · obtain ⟨b1, o1, x, rfl, l1, c1, e1, f1⟩ := (t.keep be hl).at hlt
      obtain ⟨y, hy⟩ : ∃ y, y = six x := ⟨_, rfl⟩
      have sb := six_in x
      have SP := six_impl x
      rw [← hy] at sb SP
      have HS := Lib.hid SP
      have HE := Lib.hid e1
      have HY := Lib.hid hy
      clear SP hy e1
      by_cases h2 : y < 0
      · have E1 := Lib.hid (decOk_mem (xs := xs) (x := x) (List.mem_of_getElem? HE.out) (by rw [← HY.out]; exact h2))
        have hd2 : decide (y < 0) = true := decide_eq_true h2
        go_wp2_with fail
        refine (HS.out _).mono ?_; rintro e w2 ⟨rfl, f2⟩
        go_wp2_with fail
        go_ret2
        exact ⟨_, by rw [E1.out]; rfl, be.trans (f2.mono zb), by rw [decL_no E1.out]; exact Nums.nil _ _ _ _⟩
      · have hd2 : decide (y < 0) = false := decide_eq_false h2
        have HN := Lib.hid (okD_snoc HE.out HO.out (by rw [← HY.out]; omega))
        have HD : Hid ((xs.take (k + 1)).map six = (xs.take k).map six ++ [y]) := Lib.hid (by rw [six_snoc HE.out, HY.out])
        have hlen : ((xs.take k).map six).length ≤ 16 := by rw [List.length_map, List.length_take]; omega
        generalize (xs.take k).map six = F at *
        have A1 : F.length + 1 ≤ maxLen := by unfold maxLen; omega
        have A2 : (F.length + 1) * 8 ≤ 140737488355328 := by omega
        go_wp2_with fail
        refine (HS.out _).mono ?_; rintro e w2 ⟨rfl, f2⟩
        have z2 := f2.size
        have hrow2 := row_keep hrow f2
        have be2 := be.trans (f2.mono zb)
        have z3 : w.heap.size ≤ w2.heap.size := by omega
        clear hrow
        go_wp2_with (at_builtin; refine wpList_append_own _ rfl _ _ 24 rfl (w.heap.size) 3 i0 (.int .i64 0) 1 8 Try.underlying24 hi0 hz0 hz1 hz2 rfl (by decide) _ _ _ rfl (hrow2.alloc _) ⟨w2.heap.size, 0, none⟩ 1 1 [.int .i64 y] rfl rfl (cell_one_new' _ _ _) (by simp [Value.oneCell']) A1 A2 (Nat.le_trans z3 (by simp)) ?_; intro v' w5 hown' hgrow _)
        have eB : Below w.heap.size (w2.alloc (.cells #[.int .i64 y] 3)) w5 := (Below.refl _ _).grown hgrow (Nat.le_trans z3 (by simp)) (fun j ej => (hrow2.lt j ej).1)
        have be5 : Below w.heap.size w w5 := (be2.alloc z3 (.cells #[.int .i64 y] 3)).trans eB
        clear hrow2
        go_roundw
        case rel => exact ⟨k + 1, by omega, by go_num, HN.out, be5, by rw [HD.out]; simpa using hown'⟩
        case measure => simp [intOf]; omega
    · obtain rfl : k = xs.length := by omega
      rw [List.take_length] at hrow HO
      have E1 := Lib.hid (decOk_all2 (xs := xs) (by omega) HM4.out HO.out)
      have v6 := six_V6 HO.out
      have ht := Nums.own (ts := xs.map six) hrow (fun x hx => by have := v6 x hx; unfold Fits; omega)
      have ht2 := Lib.hid ht
      have HV := Lib.hid v6
      have ml : (xs.map six).length ≤ 16 := by rw [List.length_map]; omega
      have EQ := Lib.hid (decL_reg E1.out)
      clear hrow ht v6
      generalize xs.map six = F at *
      obtain ⟨r, cr, rfl, lr, br⟩ := ht2.out.shape
      go_wp2_with fail
      refine (regr68_any wr.heap.size _ F wr ht2.out.ints (Nat.le_refl _) ml HV.out).mono ?_; rintro e w2 ⟨u, rfl, f2, n2⟩
      rw [EQ.out] at n2
      go_wp2_with fail
      go_ret2
      exact ⟨_, by rw [E1.out]; rfl, be.trans (f2.mono zb), n2.mono zb (Nat.le_refl _)⟩

/-- The first k of the indices as characters. -/
def chT (xs : List Int) (k : Nat) : List Int := (xs.take k).map chr ++ xs.drop k
theorem chT_len (xs : List Int) (k : Nat) (h : k ≤ xs.length) : (chT xs k).length = xs.length := by unfold chT; simp; omega
theorem chT_at {xs : List Int} {k : Nat} (h : k < xs.length) : (chT xs k)[k]? = some xs[k] := by
  unfold chT
  rw [List.getElem?_append_right (by simp; omega)]
  simp [Nat.min_eq_left (Nat.le_of_lt h), List.getElem?_eq_getElem h]
theorem chT_set {xs : List Int} {k : Nat} (h : k < xs.length) : (chT xs k).set k (chr xs[k]) = chT xs (k + 1) := by
  unfold chT
  rw [take_step (List.getElem?_eq_getElem h), List.map_append, List.set_append_right _ _ (by simp; omega)]
  simp [Nat.min_eq_left (Nat.le_of_lt h)]
  rw [List.drop_eq_getElem_cons h]
  rfl
theorem chT_all (xs : List Int) : chT xs xs.length = xs.map chr := by unfold chT; simp
set_option maxRecDepth 100000 in
set_option maxHeartbeats 6400000 in
theorem encode_impl (lim : Nat) (v : Value) (xs : List Int) (w : World) (t : Ints lim w v xs) (hl : lim ≤ w.heap.size) :
    Calls Try.prog 20 #[v] w (ResNO w (encOk xs) (encL xs)) := by
  obtain ⟨a, ca, rfl, la, ba⟩ := t.shape
  unfold ResNO
  by_cases h0 : 12 < xs.length
  · have E1 := Lib.hid (encOk_size (xs := xs) (by omega))
    go_enter Try.func20, Try.ntmps20
    go_wp2_with fail
    go_ret2
    exact ⟨_, by rw [E1.out]; rfl, Below.refl _ _, by rw [encL_no E1.out]; exact Nums.nil _ _ _ _⟩
  have hd0 : decide (12 < (xs.length : Int)) = false := decide_eq_false (by omega)
  by_cases h1 : xs.length % 3 = 0
  case' neg =>
    have hr : ((xs.length : Int) % 3 != 0) = true := by simp; omega
    have E1 := Lib.hid (encOk_size (xs := xs) (by omega))
    clear h1
    go_enter Try.func20, Try.ntmps20
    go_wp2_with fail
    go_ret2
    exact ⟨_, by rw [E1.out]; rfl, Below.refl _ _, by rw [encL_no E1.out]; exact Nums.nil _ _ _ _⟩
  have hr : ((xs.length : Int) % 3 != 0) = false := by simp; omega
  have HB := Lib.hid (allBytes_any lim _ xs w t)
  cases h2 : allB xs
  case false =>
    have E1 := Lib.hid (encOk_bytes h2)
    rw [h2] at HB
    clear h1 h2
    go_enter Try.func20, Try.ntmps20
    go_wp2_with fail
    refine (HB.out).mono ?_; rintro e w1 ⟨rfl, f1⟩
    go_wp2_with fail
    go_ret2
    exact ⟨_, by rw [E1.out]; rfl, f1, by rw [encL_no E1.out]; exact Nums.nil _ _ _ _⟩
  case true =>
    have E1 := Lib.hid (encOk_yes (by omega) h1 h2)
    have HV := Lib.hid (encOk_parts E1.out).2.2
    have HS := Lib.hid (encS_reg E1.out)
    have HL := Lib.hid (encL_yes E1.out)
    have HW := Lib.hid (encS_V6 HV.out (xs.length / 3) (by omega))
    have hsl := encS_len xs (xs.length / 3)
    have hs16 : (encS xs (xs.length / 3)).length ≤ 16 := by omega
    rw [h2] at HB
    clear h1 h2 hsl
    generalize encS xs (xs.length / 3) = S at *
    go_enter Try.func20, Try.ntmps20
    go_wp2_with fail
    refine (HB.out).mono ?_; rintro e w1 ⟨rfl, f1⟩
    have z1 := f1.size
    go_wp2_with fail
    refine (regr86_any lim _ xs w1 (t.keep f1 hl) (by omega) (by omega) HV.out).mono ?_; rintro e w2 ⟨u, rfl, f2, n2⟩
    rw [HS.out] at n2
    have b2 := f1.trans (f2.mono z1)
    have z2 := f2.size
    obtain ⟨r, cr, rfl, lr, br⟩ := n2.shape
    go_wp2_with fail
    go_loopw [25] (fun i wr => ∃ k : Nat, k ≤ S.length ∧ i = .int .i64 k ∧ Below w.heap.size w wr ∧ Nums true w1.heap.size wr.heap.size wr (.slice r S.length cr) (chT S k)) (fun i _ => S.length - (intOf i).toNat)
    case atStart => exact ⟨0, Nat.zero_le _, rfl, b2, n2⟩
    case round =>
      clear n2
      obtain ⟨k, hk, rfl, be, hn⟩ := hrel
      have zb := be.size
      by_cases hlt : k < S.length
      · have hcl := chT_len S k hk
        have kl : k < (chT S k).length := by omega
        obtain ⟨b, off, x, rfl, c0, e0, fx⟩ := (show Nums true w1.heap.size wr.heap.size wr (.slice r (chT S k).length cr) (chT S k) by rw [hcl]; exact hn).at kl
        rw [chT_at hlt] at e0
        simp only [Option.some.injEq] at e0
        subst e0
        obtain ⟨y, hy⟩ : ∃ y, y = chr S[k] := ⟨_, rfl⟩
        have yb := chr_bd (HW.out _ (List.getElem_mem hlt))
        rw [← hy] at yb
        have HP : Hid ((chT S k).set k y = chT S (k + 1)) := Lib.hid (by rw [hy, chT_set hlt])
        have CI := char_impl S[k]
        rw [← hy] at CI
        obtain ⟨s, hs⟩ : ∃ s, s = S[k] := ⟨_, rfl⟩
        rw [← hs] at c0 CI fx
        have HC := Lib.hid CI
        have HCL := Lib.hid hcl
        clear hy hs CI hcl
        go_wp2_with fail
        refine (HC.out _).mono ?_; rintro e w3 ⟨rfl, f3⟩
        have z3 := f3.size
        have hn3 := hn.keep f3 (Nat.le_refl _)
        have put := hn3.put kl y (by unfold Fits; omega)
        rw [HP.out] at put
        have c3 := ck f3 c0
        obtain ⟨a', cap', e0, q1, q2, q3, q4⟩ := id hn3
        rcases q4 with q4 | ⟨b', off', e, r1, r2, r3, r4⟩
        · rw [q4] at kl; simp at kl
        simp only [Value.slice.injEq, Option.some.injEq, Addr.mk.injEq, and_true] at e0 e
        obtain ⟨⟨rfl, rfl⟩, -, rfl⟩ := e0
        obtain ⟨rfl, rfl⟩ := e
        have fz := r3 rfl (off + k)
        have b3 : Below w.heap.size w w3 := be.trans (f3.mono zb)
        have b4 : Below w.heap.size w (w3.setCell ⟨b, off + k, none⟩ (.int .i64 y)) := by (repeat (with_reducible first | exact bR _ _ | assumption | refine bD ?_ | refine bN ?_ _ | refine bA ?_ _ | refine bS ?_ _))
        have put2 := put.mono (l' := w1.heap.size) (h' := (w3.setCell ⟨b, off + k, none⟩ (.int .i64 y)).heap.size) (Nat.le_refl _) (by simp; omega)
        clear hn hn3 put q3 r4 c0 b3
        go_wp2_with fail
        go_roundw
        case rel => exact ⟨k + 1, by omega, by go_num, b4, put2⟩
        case measure => simp [intOf]; omega
      · obtain rfl : k = S.length := by omega
        rw [chT_all] at hn
        rw [← HL.out] at hn
        have HN := Lib.hid hn
        clear hn
        go_wp2_with fail
        go_ret2
        exact ⟨_, by rw [E1.out]; rfl, be, HN.out.mono z1 (Nat.le_refl _)⟩
end Go.Proofs.Ytplphfgacomhkaa.L
