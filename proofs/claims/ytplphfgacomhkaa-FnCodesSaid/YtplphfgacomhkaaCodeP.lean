/- Groups of six and of eight bits, as lists: what is decoded and encoded; each undoes the other. -/
import Derived.Test.YtplphfgacomhkaaSix
import Derived.Test.YtplphfgacomhkaaMixP
import Derived.Test.YtplphfgacomhkaaB6
namespace Go.Proofs.Ytplphfgacomhkaa.L
open Go.RowKit Go.Proofs.Ytplphfgacomhkaa.S
set_option linter.unusedVariables false
set_option linter.unusedSimpArgs false

theorem wraps_i64' (n : Int) (h₀ : 0 ≤ n) (h₁ : n < 2 ^ 62) : IntKind.i64.wrap n = n := by rw [IntKind.wrap_i64]; omega
theorem mask255 {n : Int} (h0 : 0 ≤ n) (h1 : n < 4611686018427387904) : bits .and .i64 n 255 = n % 256 := bits_mask .i64 62 (by decide) wraps_i64' 8 (by decide) n h0 (by omega)
theorem mask63 {n : Int} (h0 : 0 ≤ n) (h1 : n < 4611686018427387904) : bits .and .i64 n 63 = n % 64 := bits_mask .i64 62 (by decide) wraps_i64' 6 (by decide) n h0 (by omega)
theorem join6 {r x : Int} (r0 : 0 ≤ r) (r1 : r < 65536) (x0 : 0 ≤ x) (x1 : x < 64) : bits .or .i64 (r * 64) x = r * 64 + x :=
  bits_join .i64 62 (by decide) wraps_i64' 6 (r * 64) x (by omega) (by omega) (by omega) x0 (by omega) (by omega)
theorem join8 {r x : Int} (r0 : 0 ≤ r) (r1 : r < 65536) (x0 : 0 ≤ x) (x1 : x < 256) : bits .or .i64 (r * 256) x = r * 256 + x :=
  bits_join .i64 62 (by decide) wraps_i64' 8 (r * 256) x (by omega) (by omega) (by omega) x0 (by omega) (by omega)

def at0 (xs : List Int) (i : Nat) : Int := xs.getD i 0
theorem at0_some {xs : List Int} {i : Nat} {x : Int} (h : xs[i]? = some x) : at0 xs i = x := by unfold at0; rw [List.getD_eq_getElem?_getD, h]; rfl
theorem at0_get {xs : List Int} {i : Nat} (h : i < xs.length) : xs[i]? = some (at0 xs i) := by unfold at0; rw [List.getD_eq_getElem?_getD, List.getElem?_eq_getElem h]; rfl
theorem at0_mem {xs : List Int} {i : Nat} (h : i < xs.length) : at0 xs i ∈ xs := List.mem_of_getElem? (at0_get h)
theorem at0_left {xs ys : List Int} {i : Nat} (h : i < xs.length) : at0 (xs ++ ys) i = at0 xs i := by unfold at0; simp [List.getD_eq_getElem?_getD, List.getElem?_append_left h]
theorem at0_right {xs ys : List Int} {i j : Nat} (h : i = xs.length + j) : at0 (xs ++ ys) i = at0 ys j := by subst h; unfold at0; rw [List.getD_eq_getElem?_getD, List.getD_eq_getElem?_getD, List.getElem?_append_right (by omega), Nat.add_sub_cancel_left]
theorem at0_map {xs : List Int} {i : Nat} (f : Int → Int) (h : i < xs.length) : at0 (xs.map f) i = f (at0 xs i) := by
  unfold at0; simp [List.getD_eq_getElem?_getD, List.getElem?_eq_getElem h]
theorem take_at {xs : List Int} {i : Nat} (h : i < xs.length) : xs.take (i + 1) = xs.take i ++ [at0 xs i] := take_step (at0_get h)

/-- Numbers of six bits; of eight. -/
def V6 (xs : List Int) : Prop := ∀ x ∈ xs, 0 ≤ x ∧ x ≤ 63
def V8 (xs : List Int) : Prop := ∀ x ∈ xs, 0 ≤ x ∧ x ≤ 255
theorem V6.at {xs : List Int} (v : V6 xs) {i : Nat} (h : i < xs.length) : 0 ≤ at0 xs i ∧ at0 xs i ≤ 63 := v _ (at0_mem h)
theorem V8.at {xs : List Int} (v : V8 xs) {i : Nat} (h : i < xs.length) : 0 ≤ at0 xs i ∧ at0 xs i ≤ 255 := v _ (at0_mem h)

/-- The number that k of them form. -/
def np (xs : List Int) (i : Nat) : Nat → Int
  | 0 => 0
  | k + 1 => 64 * np xs i k + at0 xs (i + k)
def grp (n : Int) : List Int := [n / 65536, n / 256 % 256, n % 256]
def decI (xs : List Int) : Nat → List Int
  | 0 => []
  | g + 1 => decI xs g ++ grp (np xs (4 * g) 4)
theorem decI_len (xs : List Int) (g : Nat) : (decI xs g).length = 3 * g := by
  induction g with
  | zero => rfl
  | succ g ih => simp only [decI, List.length_append, ih, grp, List.length_cons, List.length_nil]; omega
theorem np_bd {xs : List Int} (v : V6 xs) {i k : Nat} (hk : k ≤ 4) (h : i + k ≤ xs.length) : 0 ≤ np xs i k ∧ np xs i k ≤ 16777215 ∧ (k < 4 → np xs i k ≤ 262143) := by
  have h1 : ∀ j, j < k → 0 ≤ at0 xs (i + j) ∧ at0 xs (i + j) ≤ 63 := fun j hj => v.at (by omega)
  match k, hk, h1 with
  | 0, _, _ => simp [np]
  | 1, _, h1 => have := h1 0 (by omega); simp only [np]; omega
  | 2, _, h1 => have := h1 0 (by omega); have := h1 1 (by omega); simp only [np]; omega
  | 3, _, h1 => have := h1 0 (by omega); have := h1 1 (by omega); have := h1 2 (by omega); simp only [np]; omega
  | 4, _, h1 => have := h1 0 (by omega); have := h1 1 (by omega); have := h1 2 (by omega); have := h1 3 (by omega); simp only [np]; omega
  | k + 5, hk, _ => omega
theorem grp_V8 {n : Int} (h0 : 0 ≤ n) (h1 : n ≤ 16777215) : V8 (grp n) := by
  intro x hx
  simp only [grp, List.mem_cons, List.not_mem_nil, or_false] at hx
  rcases hx with rfl | rfl | rfl <;> omega
theorem decI_V8 {xs : List Int} (v : V6 xs) (g : Nat) (h : 4 * g ≤ xs.length) : V8 (decI xs g) := by
  induction g with
  | zero => intro x hx; cases hx
  | succ g ih =>
    intro x hx
    simp only [decI, List.mem_append] at hx
    rcases hx with hx | hx
    · exact ih (by omega) x hx
    · have := np_bd v (i := 4 * g) (k := 4) (by omega) (by omega)
      exact grp_V8 this.1 this.2.1 x hx

/-- The number that three bytes form, and its four numbers of six bits. -/
def e3 (xs : List Int) (i : Nat) : Int := at0 xs i * 65536 + at0 xs (i + 1) * 256 + at0 xs (i + 2)
def grp4 (n : Int) : List Int := [n / 262144, n / 4096 % 64, n / 64 % 64, n % 64]
def encS (xs : List Int) : Nat → List Int
  | 0 => []
  | g + 1 => encS xs g ++ grp4 (e3 xs (3 * g))
theorem encS_len (xs : List Int) (g : Nat) : (encS xs g).length = 4 * g := by
  induction g with
  | zero => rfl
  | succ g ih => simp only [encS, List.length_append, ih, grp4, List.length_cons, List.length_nil]; omega
theorem e3_bd {xs : List Int} (v : V8 xs) {i : Nat} (h : i + 2 < xs.length) : 0 ≤ e3 xs i ∧ e3 xs i ≤ 16777215 := by
  have := v.at (i := i) (by omega); have := v.at (i := i + 1) (by omega); have := v.at (i := i + 2) (by omega)
  unfold e3; omega
theorem grp4_V6 {n : Int} (h0 : 0 ≤ n) (h1 : n ≤ 16777215) : V6 (grp4 n) := by
  intro x hx
  simp only [grp4, List.mem_cons, List.not_mem_nil, or_false] at hx
  rcases hx with rfl | rfl | rfl | rfl <;> omega
theorem encS_V6 {xs : List Int} (v : V8 xs) (g : Nat) (h : 3 * g ≤ xs.length) : V6 (encS xs g) := by
  induction g with
  | zero => intro x hx; cases hx
  | succ g ih =>
    intro x hx
    simp only [encS, List.mem_append] at hx
    rcases hx with hx | hx
    · exact ih (by omega) x hx
    · have := e3_bd v (i := 3 * g) (by omega)
      exact grp4_V6 this.1 this.2 x hx

/-- What divides bits anew: the numbers so far, what is left over, and how many bits that has. -/
def drain (nw : Nat) : Nat → List Int → Int → Nat → List Int × Int × Nat
  | 0, o, r, b => (o, r, b)
  | f + 1, o, r, b => if nw ≤ b then drain nw f (o ++ [r / 2 ^ (b - nw)]) (r % 2 ^ (b - nw)) (b - nw) else (o, r, b)
def stp (wd nw : Nat) (s : List Int × Int × Nat) (x : Int) : List Int × Int × Nat := drain nw 4 s.1 (s.2.1 * 2 ^ wd + x) (s.2.2 + wd)
def reg (wd nw : Nat) (xs : List Int) : List Int × Int × Nat := xs.foldl (stp wd nw) ([], 0, 0)
theorem reg_nil (wd nw : Nat) : reg wd nw [] = ([], 0, 0) := rfl
theorem reg_snoc (wd nw : Nat) (xs : List Int) (x : Int) : reg wd nw (xs ++ [x]) = stp wd nw (reg wd nw xs) x := by unfold reg; rw [List.foldl_append]; rfl
theorem stp4 (o : List Int) {a b c d : Int} (ha : 0 ≤ a ∧ a ≤ 63) (hb : 0 ≤ b ∧ b ≤ 63) (hc : 0 ≤ c ∧ c ≤ 63) (hd : 0 ≤ d ∧ d ≤ 63) :
    stp 6 8 (stp 6 8 (stp 6 8 (stp 6 8 (o, 0, 0) a) b) c) d = (o ++ grp (64 * (64 * (64 * (64 * 0 + a) + b) + c) + d), 0, 0) := by
  simp [stp, drain, grp]
  omega
theorem stp3 (o : List Int) {a b c : Int} (ha : 0 ≤ a ∧ a ≤ 255) (hb : 0 ≤ b ∧ b ≤ 255) (hc : 0 ≤ c ∧ c ≤ 255) :
    stp 8 6 (stp 8 6 (stp 8 6 (o, 0, 0) a) b) c = (o ++ grp4 (a * 65536 + b * 256 + c), 0, 0) := by
  simp [stp, drain, grp4]
  omega
theorem reg68 {xs : List Int} (v : V6 xs) (g : Nat) (h : 4 * g ≤ xs.length) : reg 6 8 (xs.take (4 * g)) = (decI xs g, 0, 0) := by
  induction g with
  | zero => rfl
  | succ g ih =>
    rw [show 4 * (g + 1) = 4 * g + 1 + 1 + 1 + 1 from by omega, take_at (by omega), take_at (by omega), take_at (by omega), take_at (by omega)]
    rw [reg_snoc, reg_snoc, reg_snoc, reg_snoc, ih (by omega), stp4 _ (v.at (by omega)) (v.at (by omega)) (v.at (by omega)) (v.at (by omega))]
    rfl
theorem reg86 {xs : List Int} (v : V8 xs) (g : Nat) (h : 3 * g ≤ xs.length) : reg 8 6 (xs.take (3 * g)) = (encS xs g, 0, 0) := by
  induction g with
  | zero => rfl
  | succ g ih =>
    rw [show 3 * (g + 1) = 3 * g + 1 + 1 + 1 from by omega, take_at (by omega), take_at (by omega), take_at (by omega)]
    rw [reg_snoc, reg_snoc, reg_snoc, ih (by omega), stp3 _ (v.at (by omega)) (v.at (by omega)) (v.at (by omega))]
    rfl

/-- Decode64 and Encode64 as lists. -/
def decOk (xs : List Int) : Bool := decide (xs.length ≤ 16 ∧ xs.length % 4 = 0 ∧ ∀ x ∈ xs, 0 ≤ six x)
def decL (xs : List Int) : List Int := if decOk xs then decI (xs.map six) (xs.length / 4) else []
def encOk (xs : List Int) : Bool := decide (xs.length ≤ 12 ∧ xs.length % 3 = 0) && allB xs
def encL (xs : List Int) : List Int := if encOk xs then (encS xs (xs.length / 3)).map chr else []
theorem six_V6 {xs : List Int} (h : ∀ x ∈ xs, 0 ≤ six x) : V6 (xs.map six) := by
  intro s hs
  rw [List.mem_map] at hs
  obtain ⟨x, hx, rfl⟩ := hs
  exact ⟨h x hx, (six_in x).2⟩
theorem decOk_parts {xs : List Int} (h : decOk xs = true) : xs.length ≤ 16 ∧ xs.length % 4 = 0 ∧ ∀ x ∈ xs, 0 ≤ six x := of_decide_eq_true h
theorem encOk_parts {xs : List Int} (h : encOk xs = true) : xs.length ≤ 12 ∧ xs.length % 3 = 0 ∧ V8 xs := by
  unfold encOk at h
  rw [Bool.and_eq_true, decide_eq_true_eq] at h
  have h2 : ∀ x ∈ xs, isB x := of_decide_eq_true h.2
  exact ⟨h.1.1, h.1.2, fun x hx => h2 x hx⟩
theorem decL_yes {xs : List Int} (h : decOk xs = true) : decL xs = decI (xs.map six) (xs.length / 4) := by unfold decL; rw [if_pos h]
theorem encL_yes {xs : List Int} (h : encOk xs = true) : encL xs = (encS xs (xs.length / 3)).map chr := by unfold encL; rw [if_pos h]
theorem decL_no {xs : List Int} (h : decOk xs = false) : decL xs = [] := by unfold decL; rw [h]; rfl
theorem encL_no {xs : List Int} (h : encOk xs = false) : encL xs = [] := by unfold encL; rw [h]; rfl
theorem decL_len (xs : List Int) : (decL xs).length ≤ 12 := by
  cases h : decOk xs with
  | false => rw [decL_no h]; simp
  | true => have := decOk_parts h; rw [decL_yes h, decI_len]; omega
theorem encL_len (xs : List Int) : (encL xs).length ≤ 16 := by
  cases h : encOk xs with
  | false => rw [encL_no h]; simp
  | true => have := encOk_parts h; rw [encL_yes h, List.length_map, encS_len]; omega
theorem decL_reg {xs : List Int} (h : decOk xs = true) : (reg 6 8 (xs.map six)).1 = decL xs := by
  obtain ⟨h1, h2, h3⟩ := decOk_parts h
  have := reg68 (six_V6 h3) (xs.length / 4) (by rw [List.length_map]; omega)
  rw [List.take_of_length_le (by rw [List.length_map]; omega)] at this
  rw [this, decL_yes h]
theorem encS_reg {xs : List Int} (h : encOk xs = true) : (reg 8 6 xs).1 = encS xs (xs.length / 3) := by
  obtain ⟨h1, h2, h3⟩ := encOk_parts h
  have := reg86 h3 (xs.length / 3) (by omega)
  rw [List.take_of_length_le (by omega)] at this
  rw [this]

theorem six_chr {s : Int} (h : 0 ≤ s ∧ s ≤ 63) : six (chr s) = s := by
  rw [chr_in (by omega), six_at (k := s.toNat) (by omega) rfl]
  omega
theorem chr_six {x : Int} (h : 0 ≤ six x) : chr (six x) = x := by
  rcases six_cases x with ⟨k, hk, e, s⟩ | ⟨_, s⟩
  · rw [s, chr_in (by omega), ← e]; rfl
  · omega
theorem map_six_chr {l : List Int} (v : V6 l) : (l.map chr).map six = l := by
  rw [List.map_map]
  conv => rhs; rw [← List.map_id l]
  exact List.map_congr_left fun s hs => six_chr (v s hs)
theorem map_chr_six {l : List Int} (h : ∀ x ∈ l, 0 ≤ six x) : (l.map six).map chr = l := by
  rw [List.map_map]
  conv => rhs; rw [← List.map_id l]
  exact List.map_congr_left fun x hx => chr_six (h x hx)
theorem np_left {xs ys : List Int} {i k : Nat} (h : i + k ≤ xs.length) : np (xs ++ ys) i k = np xs i k := by
  induction k with
  | zero => rfl
  | succ k ih => simp only [np]; rw [ih (by omega), at0_left (by omega)]
theorem decI_left {xs ys : List Int} {g : Nat} (h : 4 * g ≤ xs.length) : decI (xs ++ ys) g = decI xs g := by
  induction g with
  | zero => rfl
  | succ g ih => simp only [decI]; rw [ih (by omega), np_left (by omega)]
theorem encS_left {xs ys : List Int} {g : Nat} (h : 3 * g ≤ xs.length) : encS (xs ++ ys) g = encS xs g := by
  induction g with
  | zero => rfl
  | succ g ih => simp only [encS, e3]; rw [ih (by omega), at0_left (by omega), at0_left (by omega), at0_left (by omega)]
theorem dec_enc {xs : List Int} (v : V8 xs) (g : Nat) (h : 3 * g ≤ xs.length) : decI (encS xs g) g = xs.take (3 * g) := by
  induction g with
  | zero => rfl
  | succ g ih =>
    have l := encS_len xs g
    have := v.at (i := 3 * g) (by omega); have := v.at (i := 3 * g + 1) (by omega); have := v.at (i := 3 * g + 2) (by omega)
    rw [show 3 * (g + 1) = 3 * g + 1 + 1 + 1 from by omega, take_at (by omega), take_at (by omega), take_at (by omega), ← ih (by omega)]
    simp only [encS, decI]
    rw [decI_left (by omega)]
    have e : np (encS xs g ++ grp4 (e3 xs (3 * g))) (4 * g) 4 = e3 xs (3 * g) := by
      simp only [np]
      rw [at0_right (j := 0) (by omega), at0_right (j := 1) (by omega), at0_right (j := 2) (by omega), at0_right (j := 3) (by omega)]
      have := e3_bd v (i := 3 * g) (by omega)
      simp [at0, grp4]
      omega
    rw [e]
    simp only [List.append_assoc, List.append_cancel_left_eq, grp, e3]
    simp
    omega
theorem enc_dec {xs : List Int} (v : V6 xs) (g : Nat) (h : 4 * g ≤ xs.length) : encS (decI xs g) g = xs.take (4 * g) := by
  induction g with
  | zero => rfl
  | succ g ih =>
    have l := decI_len xs g
    have := v.at (i := 4 * g) (by omega); have := v.at (i := 4 * g + 1) (by omega); have := v.at (i := 4 * g + 2) (by omega); have := v.at (i := 4 * g + 3) (by omega)
    rw [show 4 * (g + 1) = 4 * g + 1 + 1 + 1 + 1 from by omega, take_at (by omega), take_at (by omega), take_at (by omega), take_at (by omega), ← ih (by omega)]
    simp only [encS, decI]
    rw [encS_left (by omega)]
    have nb := np_bd v (i := 4 * g) (k := 4) (by omega) (by omega)
    have e : e3 (decI xs g ++ grp (np xs (4 * g) 4)) (3 * g) = np xs (4 * g) 4 := by
      unfold e3
      rw [at0_right (j := 0) (by omega), at0_right (j := 1) (by omega), at0_right (j := 2) (by omega)]
      generalize np xs (4 * g) 4 = n at *
      simp [at0, grp]
      omega
    rw [e]
    simp only [List.append_assoc, List.append_cancel_left_eq, grp4, np]
    simp
    omega
theorem code_back {xs : List Int} (h : encOk xs = true) : decOk (encL xs) = true ∧ decL (encL xs) = xs ∧ (encL xs).length * 3 = xs.length * 4 := by
  obtain ⟨h1, h2, h3⟩ := encOk_parts h
  have v := encS_V6 h3 (xs.length / 3) (by omega)
  have hl : (encL xs).length = 4 * (xs.length / 3) := by rw [encL_yes h, List.length_map, encS_len]
  have hm : (encL xs).map six = encS xs (xs.length / 3) := by rw [encL_yes h, map_six_chr v]
  have ho : decOk (encL xs) = true := by
    refine decide_eq_true ⟨by omega, by omega, fun x hx => ?_⟩
    have : six x ∈ (encL xs).map six := List.mem_map_of_mem hx
    rw [hm] at this
    exact (v _ this).1
  refine ⟨ho, ?_, by omega⟩
  rw [decL_yes ho, hm, hl, show 4 * (xs.length / 3) / 4 = xs.length / 3 from by omega, dec_enc h3 _ (by omega), List.take_of_length_le (by omega)]
theorem text_back {xs : List Int} (h : decOk xs = true) : encOk (decL xs) = true ∧ encL (decL xs) = xs := by
  obtain ⟨h1, h2, h3⟩ := decOk_parts h
  have v := six_V6 h3
  have ml : (xs.map six).length = xs.length := List.length_map ..
  have hl : (decL xs).length = 3 * (xs.length / 4) := by rw [decL_yes h, decI_len]
  have ho : encOk (decL xs) = true := by
    unfold encOk
    rw [Bool.and_eq_true]
    refine ⟨decide_eq_true ⟨by omega, by omega⟩, decide_eq_true fun x hx => ?_⟩
    rw [decL_yes h] at hx
    exact decI_V8 v (xs.length / 4) (by omega) x hx
  refine ⟨ho, ?_⟩
  rw [encL_yes ho, hl, show 3 * (xs.length / 4) / 3 = xs.length / 4 from by omega, decL_yes h, enc_dec v _ (by omega), List.take_of_length_le (by omega), map_chr_six h3]
end Go.Proofs.Ytplphfgacomhkaa.L
