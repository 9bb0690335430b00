/- The model's Decode64 and Encode64. -/
import Derived.Test.YtplphfgacomhkaaCodeP
import Derived.Test.YtplphfgacomhkaaMixB
import Derived.Test.YtplphfgacomhkaaNums2
namespace Go.Proofs.Ytplphfgacomhkaa.L
open Go.RowKit Go.Proofs.Ytplphfgacomhkaa.S
set_option linter.unusedVariables false
set_option linter.unusedSimpArgs false

theorem cells_newL (w : World) (l : List Value) (t : TypeId) : ∀ j u, l[j]? = some u → (w.alloc (.cells l.toArray t)).cell? ((⟨w.heap.size, 0, none⟩ : Addr).add j) = some u := by
  intro j u hj
  rw [Go.WideShapes.add_plain, World.cell?_alloc_at _ _ _ _ rfl]
  simpa using hj
def ResNO (w : World) (ok : Bool) (xs : List Int) (e : Ending) (w' : World) : Prop := ∃ u, e = .returned (.tuple #[u, .bool ok]) ∧ Below w.heap.size w w' ∧ Nums true w.heap.size w'.heap.size w' u xs
theorem decOk_bad {xs : List Int} {i : Nat} (hi : i < xs.length) (h : six (at0 xs i) < 0) : decOk xs = false := by
  unfold decOk
  rw [decide_eq_false_iff_not]
  intro ⟨_, _, h3⟩
  have := h3 _ (at0_mem hi)
  omega
theorem decOk_size {xs : List Int} (h : ¬ (xs.length ≤ 16 ∧ xs.length % 4 = 0)) : decOk xs = false := by
  unfold decOk
  rw [decide_eq_false_iff_not]
  exact fun q => h ⟨q.1, q.2.1⟩
theorem decOk_all {xs : List Int} (h1 : xs.length ≤ 16) (h2 : xs.length % 4 = 0) (h : ∀ j, j < xs.length → 0 ≤ six (at0 xs j)) : decOk xs = true := by
  refine decide_eq_true ⟨h1, h2, fun x hx => ?_⟩
  obtain ⟨i, hi, rfl⟩ := List.getElem_of_mem hx
  have := h i hi
  rwa [at0_some (List.getElem?_eq_getElem hi)] at this
theorem six_at0 {xs : List Int} {i : Nat} (h : i < xs.length) : at0 (xs.map six) i = six (at0 xs i) := at0_map six h

set_option maxRecDepth 100000 in
set_option maxHeartbeats 6400000 in
theorem l7decode_any (lim : Nat) (v : Value) (xs : List Int) (w : World) (t : Ints lim w v xs) (hl : lim ≤ w.heap.size) (h1 : xs.length ≤ 16) (h2 : xs.length % 4 = 0) :
    Calls Try.prog 26 #[v] w (ResNO w (decOk xs) (decL xs)) := by
  obtain ⟨a, ca, rfl, la, ba⟩ := t.shape
  obtain ⟨i0, hi0, hz0, hz1, hz2⟩ := info_parts intInfo
  have ml : (xs.map six).length = xs.length := List.length_map ..
  have HM2 := Lib.hid h2
  clear h2
  unfold ResNO
  go_enter Try.func26, Try.ntmps26
  go_wp2_with fail
  go_loopw [4, 5] (fun v i wr => ∃ g G : Nat, G ≤ xs.length ∧ i = .int .i64 G ∧ G = 4 * g ∧ (∀ j, j < G → 0 ≤ six (at0 xs j)) ∧ Below w.heap.size w wr ∧ wr.ownsRow w.heap.size 3 1 v (decI (xs.map six) g).length ((decI (xs.map six) g).map (Value.int .i64))) (fun _ i _ => xs.length - (intOf i).toNat)
  case atStart => exact ⟨0, 0, Nat.zero_le _, rfl, rfl, fun j hj => by omega, Below.refl _ _, World.ownsRow_nil _ _ _ _⟩
  case round =>
    obtain ⟨g, G, hg, rfl, hG, hok, be, hrow⟩ := hrel
    obtain ⟨wo, hwo⟩ : ∃ x, x = wr := ⟨_, rfl⟩
    subst hwo
    have HO := Lib.hid hok
    have HG := Lib.hid hG
    have zb := be.size
    have hm4 : G % 4 = 0 := by omega
    have HM4 := Lib.hid hm4
    clear hok hG hm4
    by_cases hlt : G + 3 < xs.length
    · have hdg : decide ((G : Int) + 3 < (xs.length : Int)) = true := decide_eq_true (by omega)
      go_wp2_with fail
      go_loopw [6, 7] (fun n k ws => ∃ (j : Nat) (q : Int), j ≤ 4 ∧ k = .int .i64 j ∧ n = .int .i64 q ∧ q = np (xs.map six) G j ∧ (∀ m, m < G + j → 0 ≤ six (at0 xs m)) ∧ 0 ≤ q ∧ ((j = 0 ∧ q ≤ 0) ∨ (j = 1 ∧ q ≤ 63) ∨ (j = 2 ∧ q ≤ 4095) ∨ (j = 3 ∧ q ≤ 262143) ∨ (j = 4 ∧ q ≤ 16777215)) ∧ Below wo.heap.size wo ws) (fun _ k _ => 4 - (intOf k).toNat)
      case atStart => exact ⟨0, 0, by omega, rfl, rfl, rfl, fun m hm => HO.out m (by omega), by omega, by omega, Below.refl _ _⟩
      case round =>
        obtain ⟨j, q, hj, rfl, rfl, hq, hin, q0, q2, bs⟩ := hrel
        have q1 : q ≤ 16777215 := by omega
        have zs := bs.size
        have be2 := be.trans (bs.mono zb)
        have HQ := Lib.hid hq
        have HN := Lib.hid hin
        clear hq hin
        by_cases hjl : j < 4
        · have q3 : q ≤ 262143 := by omega
          have Q2 := Lib.hid q2
          obtain ⟨b1, o1, x, rfl, l1, c1, e1, f1⟩ := (t.keep be2 hl).at (k := G + j) (by omega)
          obtain ⟨y, hy⟩ : ∃ y, y = six x := ⟨_, rfl⟩
          have sb := six_in x
          have SP := six_spec x
          rw [← hy] at sb SP
          have HS := Lib.hid SP
          have ex : at0 xs (G + j) = x := at0_some e1
          have en : ((G : Int) + (j : Int)).toNat = G + j := by omega
          have HY := Lib.hid hy
          clear e1 q2 SP hy
          by_cases h0 : y < 0
          · have E1 := Lib.hid (decOk_bad (xs := xs) (i := G + j) (by omega) (by rw [ex, ← HY.out]; exact h0))
            have hd0 : decide (y < 0) = true := decide_eq_true h0
            clear ex
            go_wp2_with fail
            refine (HS.out _).mono ?_; rintro e w2 ⟨rfl, f2⟩
            go_wp2_with fail
            go_ret2
            exact ⟨_, by rw [E1.out]; rfl, be2.trans (f2.mono (by omega)), by rw [decL_no E1.out]; exact Nums.nil _ _ _ _⟩
          · have hd0 : decide (y < 0) = false := decide_eq_false h0
            have HN' := Lib.hid (fun (m : Nat) (hm : m < G + (j + 1)) => show 0 ≤ six (at0 xs m) from if e : m = G + j then by rw [e, ex, ← HY.out]; omega else HN.out m (by omega))
            have HQ' : Hid (64 * q + y = np (xs.map six) G (j + 1)) := Lib.hid (by simp only [np]; rw [← HQ.out, six_at0 (by omega), ex, ← HY.out])
            clear ex
            go_wp2_with fail
            refine (HS.out _).mono ?_; rintro e w2 ⟨rfl, f2⟩
            have z2 := f2.size
            go_wp2_with fail
            go_roundw
            case rel => exact ⟨j + 1, 64 * q + y, by omega, by go_num, by go_num, HQ'.out, HN'.out, by omega, by have := Q2.out; omega, bs.trans (f2.mono (by omega))⟩
            case measure => simp [intOf]; omega
        · obtain rfl : j = 4 := by omega
          have hrow2 := row_keep hrow bs
          have k1 : Hid (q / 65536 :: q / 256 % 256 :: q % 256 :: [] = grp (np (xs.map six) (4 * g) 4)) := Lib.hid (by rw [← HG.out, ← HQ.out]; rfl)
          have m1 := mask255 (n := q / 256) (by omega) (by omega)
          have m2 := mask255 (n := q) (by omega) (by omega)
          have hlen := decI_len (xs.map six) g
          have HD : Hid (decI (xs.map six) (g + 1) = decI (xs.map six) g ++ [q / 65536, q / 256 % 256, q % 256]) := Lib.hid (by simp only [decI]; rw [← k1.out])
          have hg3 : 3 * g ≤ 16 := by have := HG.out; omega
          generalize decI (xs.map six) g = F at *
          clear q2
          go_wp2_with (at_builtin; refine wpList_append_own _ rfl _ _ 24 rfl (w.heap.size) 3 i0 (.int .i64 0) 1 8 Try.underlying24 hi0 hz0 hz1 hz2 rfl (by decide) _ _ _ rfl (hrow2.alloc _) ⟨wr.heap.size, 0, none⟩ 3 3 [.int .i64 (q / 65536), .int .i64 (q / 256 % 256), .int .i64 (q % 256)] rfl rfl (cells_newL _ _ _) (by simp [Value.oneCell']) (by unfold maxLen; omega) (by omega) (by simp; omega) ?_; intro v' w5 hown' hgrow _)
          have eB : Below w.heap.size (wr.alloc (.cells #[.int .i64 (q / 65536), .int .i64 (q / 256 % 256), .int .i64 (q % 256)] 3)) w5 := (Below.refl _ _).grown hgrow (by simp; omega) (fun j ej => (hrow2.lt j ej).1)
          have be5 : Below w.heap.size w w5 := (be2.alloc (by omega) (.cells #[.int .i64 (q / 65536), .int .i64 (q / 256 % 256), .int .i64 (q % 256)] 3)).trans eB
          clear hrow2 hrow
          go_roundw
          case rel => exact ⟨g + 1, G + 4, by omega, by go_num, by have := HG.out; omega, fun m hm => HN.out m (by omega), be5, by rw [HD.out]; simpa using hown'⟩
          case measure => simp [intOf]; omega
    · have hdg : decide ((G : Int) + 3 < (xs.length : Int)) = false := decide_eq_false (by omega)
      have hGl : G = xs.length := by have := HM4.out; have := HM2.out; omega
      have E1 := Lib.hid (decOk_all h1 HM2.out (fun j hj => HO.out j (by omega)))
      have v := six_V6 (decOk_parts E1.out).2.2
      have e2 : decL xs = decI (xs.map six) g := by rw [decL_yes E1.out, show xs.length / 4 = g from by have := HG.out; omega]
      have ht := Nums.own (ts := decI (xs.map six) g) hrow (fun x hx => by have := decI_V8 v g (by have := HG.out; omega) x hx; unfold Fits; omega)
      rw [← e2] at ht
      have HT := Lib.hid ht
      clear ht hrow e2 v hGl
      obtain ⟨r, cr, rfl, lr, br⟩ := HT.out.shape
      go_wp2_with fail
      go_ret2
      exact ⟨_, by rw [E1.out]; rfl, be, HT.out⟩

theorem decOk_len {xs : List Int} (h : 16 < xs.length) : decOk xs = false := decOk_size (by omega)
set_option maxRecDepth 100000 in
set_option maxHeartbeats 1600000 in
theorem decode_spec (lim : Nat) (v : Value) (xs : List Int) (w : World) (t : Ints lim w v xs) (hl : lim ≤ w.heap.size) :
    Calls Try.prog 13 #[v] w (ResNO w (decOk xs) (decL xs)) := by
  obtain ⟨a, ca, rfl, la, ba⟩ := t.shape
  by_cases h0 : 16 < xs.length
  · have E1 := Lib.hid (decOk_len h0)
    unfold ResNO
    go_enter Try.func13, Try.ntmps13
    go_wp2_with fail
    go_ret2
    exact ⟨_, by rw [E1.out]; rfl, Below.refl _ _, by rw [decL_no E1.out]; exact Nums.nil _ _ _ _⟩
  have hd0 : decide (16 < (xs.length : Int)) = false := decide_eq_false (by omega)
  by_cases h1 : xs.length % 4 = 0
  · have hr : ((xs.length : Int) % 4 != 0) = false := by simp; omega
    have HL := Lib.hid (l7decode_any lim _ xs w t hl (by omega) h1)
    clear h1
    unfold ResNO
    go_enter Try.func13, Try.ntmps13
    go_wp2_with fail
    refine (HL.out).mono ?_; rintro e w1 ⟨u, rfl, b1, n1⟩
    go_wp2_with fail
    go_ret2
    exact ⟨_, rfl, b1, n1⟩
  · have hr : ((xs.length : Int) % 4 != 0) = true := by simp; omega
    have E1 := Lib.hid (decOk_size (xs := xs) (by omega))
    clear h1
    unfold ResNO
    go_enter Try.func13, Try.ntmps13
    go_wp2_with fail
    go_ret2
    exact ⟨_, by rw [E1.out]; rfl, Below.refl _ _, by rw [decL_no E1.out]; exact Nums.nil _ _ _ _⟩

theorem encOk_size {xs : List Int} (h : ¬ (xs.length ≤ 12 ∧ xs.length % 3 = 0)) : encOk xs = false := by
  unfold encOk
  rw [decide_eq_false h]; rfl
theorem encOk_bytes {xs : List Int} (h : allB xs = false) : encOk xs = false := by
  unfold encOk
  rw [h]; simp
theorem encOk_yes {xs : List Int} (h0 : xs.length ≤ 12) (h1 : xs.length % 3 = 0) (h2 : allB xs = true) : encOk xs = true := by
  unfold encOk
  rw [h2, decide_eq_true ⟨h0, h1⟩]; rfl
theorem chr_bd {n : Int} (h : 0 ≤ n ∧ n ≤ 63) : 43 ≤ chr n ∧ chr n ≤ 122 := by
  rw [chr_in (by omega)]
  have := ch_in (k := n.toNat) (by omega)
  omega
set_option maxRecDepth 100000 in
set_option maxHeartbeats 6400000 in
theorem encode_spec (lim : Nat) (v : Value) (xs : List Int) (w : World) (t : Ints lim w v xs) (hl : lim ≤ w.heap.size) :
    Calls Try.prog 19 #[v] w (ResNO w (encOk xs) (encL xs)) := by
  obtain ⟨a, ca, rfl, la, ba⟩ := t.shape
  obtain ⟨i0, hi0, hz0, hz1, hz2⟩ := info_parts intInfo
  unfold ResNO
  by_cases h0 : 12 < xs.length
  · have E1 := Lib.hid (encOk_size (xs := xs) (by omega))
    go_enter Try.func19, Try.ntmps19
    go_wp2_with fail
    go_ret2
    exact ⟨_, by rw [E1.out]; rfl, Below.refl _ _, by rw [encL_no E1.out]; exact Nums.nil _ _ _ _⟩
  have hd0 : decide (12 < (xs.length : Int)) = false := decide_eq_false (by omega)
  by_cases h1 : xs.length % 3 = 0
  case' neg =>
    have hr : ((xs.length : Int) % 3 != 0) = true := by simp; omega
    have E1 := Lib.hid (encOk_size (xs := xs) (by omega))
    clear h1
    go_enter Try.func19, Try.ntmps19
    go_wp2_with fail
    go_ret2
    exact ⟨_, by rw [E1.out]; rfl, Below.refl _ _, by rw [encL_no E1.out]; exact Nums.nil _ _ _ _⟩
  have hr : ((xs.length : Int) % 3 != 0) = false := by simp; omega
  have HB := Lib.hid (l5bytes_any lim _ xs w t)
  cases h2 : allB xs
  case false =>
    have E1 := Lib.hid (encOk_bytes h2)
    rw [h2] at HB
    clear h1 h2
    go_enter Try.func19, Try.ntmps19
    go_wp2_with fail
    refine (HB.out).mono ?_; rintro e w1 ⟨rfl, rfl⟩
    go_wp2_with fail
    go_ret2
    exact ⟨_, by rw [E1.out]; rfl, Below.refl _ _, by rw [encL_no E1.out]; exact Nums.nil _ _ _ _⟩
  case true =>
    have E1 := Lib.hid (encOk_yes (by omega) h1 h2)
    have HV := Lib.hid (encOk_parts E1.out).2.2
    have HM3 := Lib.hid h1
    rw [h2] at HB
    clear h1 h2
    go_enter Try.func19, Try.ntmps19
    go_wp2_with fail
    refine (HB.out).mono ?_; rintro e w1 ⟨rfl, rfl⟩
    go_wp2_with fail
    go_loopw [4, 5] (fun v i wr => ∃ g G : Nat, G ≤ xs.length ∧ i = .int .i64 G ∧ G = 3 * g ∧ Below w.heap.size w wr ∧ wr.ownsRow w.heap.size 3 1 v ((encS xs g).map chr).length (((encS xs g).map chr).map (Value.int .i64))) (fun _ i _ => xs.length - (intOf i).toNat)
    case atStart => exact ⟨0, 0, Nat.zero_le _, rfl, rfl, Below.refl _ _, World.ownsRow_nil _ _ _ _⟩
    case round =>
      obtain ⟨g, G, hg, rfl, hG, be, hrow⟩ := hrel
      have HG := Lib.hid hG
      have hm3 : G % 3 = 0 := by omega
      have HG3 := Lib.hid hm3
      clear hG hm3
      by_cases hlt : G < xs.length
      · have hG2 : G + 2 < xs.length := by have := HG3.out; have := HM3.out; omega
        obtain ⟨b1, o1, x0, rfl, l1, c0, e0, f0⟩ := (t.keep be hl).at (k := G) (by omega)
        obtain ⟨b2, o2, x1, eb, l2, c1, e1, f1⟩ := (t.keep be hl).at (k := G + 1) (by omega)
        simp only [Option.some.injEq, Addr.mk.injEq, and_true] at eb
        obtain ⟨rfl, rfl⟩ := eb
        obtain ⟨b2, o2, x2, eb, l3, c2, e2, f2⟩ := (t.keep be hl).at (k := G + 2) (by omega)
        simp only [Option.some.injEq, Addr.mk.injEq, and_true] at eb
        obtain ⟨rfl, rfl⟩ := eb
        have hx0 := HV.out _ (List.mem_of_getElem? e0)
        have hx1 := HV.out _ (List.mem_of_getElem? e1)
        have hx2 := HV.out _ (List.mem_of_getElem? e2)
        have HE : Hid (e3 xs (3 * g) = x0 * 65536 + x1 * 256 + x2) := Lib.hid (by rw [← HG.out]; unfold e3; rw [at0_some e0, at0_some e1, at0_some e2])
        have n1 : ((G : Int) + 1).toNat = G + 1 := by omega
        have n2 : ((G : Int) + 2).toNat = G + 2 := by omega
        clear e0 e1 e2
        go_wp2_with fail
        go_region
        obtain ⟨n, hn⟩ : ∃ n : Int, n = x0 * 65536 + x1 * 256 + x2 := ⟨_, rfl⟩
        have q0 : 0 ≤ n := by omega
        have q1 : n ≤ 16777215 := by omega
        rw [← hn] at HE ⊢
        have bd : Below wr.heap.size wr wr.drew := (Below.refl _ _).drew
        generalize wr.drew = w1 at *
        have z1 := bd.size
        have hrow1 := row_keep hrow bd
        have m1 := mask63 (n := n / 4096) (by omega) (by omega)
        have m2 := mask63 (n := n / 64) (by omega) (by omega)
        have m3 := mask63 (n := n) (by omega) (by omega)
        have C0 := Lib.hid (char_spec (n / 262144))
        have C1 := Lib.hid (char_spec (n / 4096 % 64))
        have C2 := Lib.hid (char_spec (n / 64 % 64))
        have C3 := Lib.hid (char_spec (n % 64))
        have hlen : ((encS xs g).map chr).length = 4 * g := by rw [List.length_map, encS_len]
        have HD : Hid ((encS xs (g + 1)).map chr = (encS xs g).map chr ++ [chr (n / 262144), chr (n / 4096 % 64), chr (n / 64 % 64), chr (n % 64)]) := Lib.hid (by simp only [encS, List.map_append, HE.out]; rfl)
        have hg3 : 4 * g ≤ 16 := by have := HG.out; omega
        clear hn c0 c1 c2 hrow hx0 hx1 hx2
        generalize (encS xs g).map chr = F at *
        go_wp2_with fail
        refine (C0.out _).mono ?_; rintro e w2 ⟨rfl, f2⟩
        have z2 := f2.size
        go_wp2_with fail
        refine (C1.out _).mono ?_; rintro e w3 ⟨rfl, f3⟩
        have z3 := f3.size
        go_wp2_with fail
        refine (C2.out _).mono ?_; rintro e w4 ⟨rfl, f4⟩
        have z4 := f4.size
        go_wp2_with fail
        refine (C3.out _).mono ?_; rintro e w6 ⟨rfl, f6⟩
        have z6 := f6.size
        have bw : Below w1.heap.size w1 w6 := ((f2.trans (f3.mono (by omega))).trans (f4.mono (by omega))).trans (f6.mono (by omega))
        have hrow2 := row_keep hrow1 bw
        have be2 : Below w.heap.size w w6 := (be.trans (bd.mono (by have := be.size; omega))).trans (bw.mono (by have := be.size; omega))
        have zb := be2.size
        clear hrow1 C0 C1 C2 C3
        go_wp2_with (at_builtin; refine wpList_append_own _ rfl _ _ 24 rfl (w.heap.size) 3 i0 (.int .i64 0) 1 8 Try.underlying24 hi0 hz0 hz1 hz2 rfl (by decide) _ _ _ rfl (hrow2.alloc _) ⟨w6.heap.size, 0, none⟩ 4 4 [.int .i64 (chr (n / 262144)), .int .i64 (chr (n / 4096 % 64)), .int .i64 (chr (n / 64 % 64)), .int .i64 (chr (n % 64))] rfl rfl (cells_newL _ _ _) (by simp [Value.oneCell']) (by unfold maxLen; omega) (by omega) (by simp; omega) ?_; intro v' w5 hown' hgrow _)
        have eB : Below w.heap.size (w6.alloc (.cells #[.int .i64 (chr (n / 262144)), .int .i64 (chr (n / 4096 % 64)), .int .i64 (chr (n / 64 % 64)), .int .i64 (chr (n % 64))] 3)) w5 := (Below.refl _ _).grown hgrow (by simp; omega) (fun j ej => (hrow2.lt j ej).1)
        have be5 : Below w.heap.size w w5 := (be2.alloc (by omega) (.cells #[.int .i64 (chr (n / 262144)), .int .i64 (chr (n / 4096 % 64)), .int .i64 (chr (n / 64 % 64)), .int .i64 (chr (n % 64))] 3)).trans eB
        clear hrow2
        go_roundw
        case rel => exact ⟨g + 1, G + 3, by omega, by go_num, by have := HG.out; omega, be5, by rw [HD.out]; simpa using hown'⟩
        case measure => simp [intOf]; omega
      · have e2 : encL xs = (encS xs g).map chr := by rw [encL_yes E1.out, show xs.length / 3 = g from by have := HG.out; omega]
        have v := encS_V6 HV.out g (by have := HG.out; omega)
        have ht := Nums.own (ts := (encS xs g).map chr) hrow (fun x hx => by obtain ⟨q, hq, rfl⟩ := List.mem_map.1 hx; have := chr_bd (v q hq); unfold Fits; omega)
        rw [← e2] at ht
        have HT := Lib.hid ht
        clear ht hrow e2 v
        obtain ⟨r, cr, rfl, lr, br⟩ := HT.out.shape
        go_wp2_with fail
        go_ret2
        exact ⟨_, by rw [E1.out]; rfl, be, HT.out⟩
end Go.Proofs.Ytplphfgacomhkaa.L
