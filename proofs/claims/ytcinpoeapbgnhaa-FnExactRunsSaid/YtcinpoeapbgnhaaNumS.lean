/- Slices of slices of numbers. -/
import Derived.Test.YtcinpoeapbgnhaaB1
import Derived.Test.YtcinpoeapbgnhaaB2
import Derived.Test.YtcinpoeapbgnhaaToInts2
namespace Go.Proofs.Ytcinpoeapbgnhaa.L
open Go.RowKit Go.Proofs.Ytcinpoeapbgnhaa.S
set_option linter.unusedVariables false
set_option linter.unusedSimpArgs false

theorem Nums.agree {own : Bool} {l h : Nat} {w w' : World} {v : Value} {ts : List Int} (ht : Nums own l h w v ts) (hs : Same l h w w') : Nums own l h w' v ts := by
  obtain ⟨a, cap, rfl, h1, h2, h3, h4⟩ := ht
  refine ⟨a, cap, rfl, h1, h2, h3, ?_⟩
  rcases h4 with h4 | ⟨b, off, e, hl, hlt, hf, hc⟩
  · exact .inl h4
  · exact .inr ⟨b, off, e, hl, hlt, fun hw j => by rw [hs.frozen hl hlt]; exact hf hw j, fun j t hj => by rw [hs.cell hl hlt]; exact hc j t hj⟩
def numsSh : Shape (List Int) where
  wd := 1
  rep o l h w cs x := ∃ v, cs = [v] ∧ Nums o l h w v x
  len h := by obtain ⟨v, rfl, _⟩ := h; rfl
  agree h s := by obtain ⟨v, e, t⟩ := h; exact ⟨v, e, t.agree s⟩
  mono h a b := by obtain ⟨v, e, t⟩ := h; exact ⟨v, e, t.mono a b⟩
def IntSS (o : Bool) (l h : Nat) (w : World) (v : Value) (xs : List (List Int)) : Prop := (Shape.row numsSh).rep o l h w [v] xs
section
variable {o : Bool} {l h : Nat} {w w' : World} {v : Value}
theorem IntSS.keep {B : Nat} {xs : List (List Int)} (t : IntSS o l h w v xs) (hb : Below B w w') (hl : h ≤ B) : IntSS o l h w' v xs := Shape.keep (E := Shape.row numsSh) t hb hl
theorem IntSS.agree {xs : List (List Int)} (t : IntSS o l h w v xs) (s : Same l h w w') : IntSS o l h w' v xs := (Shape.row numsSh).agree t s
theorem IntSS.mono {l' h' : Nat} {xs : List (List Int)} (t : IntSS o l h w v xs) (a : l' ≤ l) (b : h ≤ h') : IntSS o l' h' w v xs := (Shape.row numsSh).mono t a b
theorem IntSS.only {lo hi : Nat} {xs : List (List Int)} (t : IntSS o l h w v xs) (ho : Only lo hi w w') (hd : h ≤ lo ∨ hi ≤ l) (hs : h ≤ w.heap.size) : IntSS o l h w' v xs := Shape.only (E := Shape.row numsSh) t ho hd hs
theorem IntSS.shape {xs : List (List Int)} (t : IntSS o l h w v xs) : ∃ a cap, v = .slice a xs.length cap ∧ xs.length ≤ cap ∧ cap ≤ 9223372036854775807 := by
  obtain ⟨a, cap, e, h1, h2⟩ := Shape.row_shape (E := numsSh) t; simp only [List.cons.injEq, and_true] at e; exact ⟨a, cap, e, h1, h2⟩
theorem IntSS.nil : IntSS o l h w (.slice none 0 0) [] := Shape.row_nil (E := numsSh) _ _ _ _
theorem IntSS.at {a : Option Addr} {n cap : Nat} {xs : List (List Int)} (t : IntSS o l h w (.slice a n cap) xs) {j : Nat} (hj : j < xs.length) :
    ∃ b off u, a = some ⟨b, off, none⟩ ∧ l ≤ b ∧ b < h ∧ w.cell? ⟨b, off + j, none⟩ = some u ∧ Nums o l h w u xs[j] := by
  obtain ⟨b, off, cs, e, h1, h2, hc, u, rfl, tu⟩ := Shape.row_at (E := numsSh) t hj
  have := hc 0 u rfl
  rw [show numsSh.wd = 1 from rfl, Nat.mul_one, Nat.add_zero] at this
  exact ⟨b, off, u, e, h1, h2, this, tu⟩
end
theorem eqNums_same (o1 l1 h1 v o2 l2 h2 u) (ts : List Int) (w : World) (t1 : Nums o1 l1 h1 w v ts) (t2 : Nums o2 l2 h2 w u ts) (hw1 : h1 ≤ w.heap.size) (hw2 : h2 ≤ w.heap.size) :
    Calls Try.prog 19 #[v, u] w fun e w' => e = .returned (.bool true) ∧ Below w.heap.size w w' := by
  have := eqNums_any o1 o2 l1 h1 l2 h2 v u ts ts w t1 t2 hw1 hw2
  rwa [dec_self] at this
def fI (t : List Int) : Nat := t.length
def gI (m : Nat) (t : List Int) : List Int := marksN m t.length
theorem markNums_int (l h : Nat) (v : Value) (ts : List Int) (n : Int) (w : World) (h1 : Nums true l h w v ts) (hw : h ≤ w.heap.size) (hlen : ts.length ≤ 4194304) (n0 : 0 ≤ n) (n1 : n ≤ 16777216) :
    Calls Try.prog 21 #[v, .int .i64 n] w fun e w' => e = .returned (.int .i64 (n + (ts.length : Int))) ∧ Only l h w w' ∧ Nums true l h w' v (marksN n.toNat ts.length) := by
  have := markNums_any l h v ts n.toNat w h1 hw hlen (by omega)
  rw [show ((n.toNat : Nat) : Int) = n from by omega, show ((n.toNat + ts.length : Nat) : Int) = n + (ts.length : Int) from by omega] at this
  exact this
def szIs (ls : List (List Int)) : Nat := ls.length + tot List.length ls
set_option maxRecDepth 100000 in
theorem szInts_left (o l h v) (ts : List Int) (n : Int) (w : World) (t : Nums o l h w v ts) (hw : h ≤ w.heap.size) (n0 : 0 ≤ n) (n1 : n ≤ 1048576) :
    Calls Try.prog 56 #[v, .int .i64 n] w fun e w' => e = .returned (.int .i64 (left n ts.length)) ∧ Below w.heap.size w w' := by
  obtain ⟨a, ka, rfl, la, ba⟩ := t.shape
  by_cases hl : n < ts.length
  · rw [left_no hl]
    go_enter Try.func56, Try.ntmps56
    go_wp2_with fail
    go_ret
    exact ⟨rfl, by (repeat (with_reducible first | exact bR _ _ | assumption | refine bD ?_ | refine bN ?_ _ | refine bA ?_ _ | refine bS ?_ _))⟩
  · rw [left_ok hl]
    go_enter Try.func56, Try.ntmps56
    go_wp2_with fail
    go_ret
    exact ⟨rfl, by (repeat (with_reducible first | exact bR _ _ | assumption | refine bD ?_ | refine bN ?_ _ | refine bA ?_ _ | refine bS ?_ _))⟩
theorem szInts_ok (o l h v ts) (n : Int) (w : World) (t : Nums o l h w v ts) (hw : h ≤ w.heap.size) (n1 : n ≤ 1048576) (hn : (ts.length : Int) ≤ n) :
    Calls Try.prog 56 #[v, .int .i64 n] w fun e w' => e = .returned (.int .i64 (n - ts.length)) ∧ Below w.heap.size w w' := by
  have := szInts_left o l h v ts n w t hw (by omega) n1
  rwa [left_ok (by omega)] at this
theorem szInts_no (o l h v ts) (n : Int) (w : World) (t : Nums o l h w v ts) (hw : h ≤ w.heap.size) (n0 : 0 ≤ n) (n1 : n ≤ 1048576) (hn : n < (ts.length : Int)) :
    Calls Try.prog 56 #[v, .int .i64 n] w fun e w' => e = .returned (.int .i64 (-1)) ∧ Below w.heap.size w w' := by
  have := szInts_left o l h v ts n w t hw n0 n1
  rwa [left_no hn] at this

theorem intsInfo : (Try.prog.info? 33).map (fun i => (i.zero, i.size, i.bytes)) = some (some (.slice none 0 0), 1, 24) := by kernel_rfl

theorem IntSS.made {w : World} {base n : Nat} {v : Value} (hr : w.ownsRow base 33 1 v n (madeCells #[.slice none 0 0] (n * 1)).toList) (hb : base ≤ w.heap.size) : IntSS true base w.heap.size w v (List.replicate n []) :=
  Shape.row_made (E := numsSh) (zs := [.slice none 0 0]) (d := ([] : List Int)) rfl (fun l h w => ⟨_, rfl, Nums.nil _ _ _ _⟩) hr hb
theorem IntSS.fill {l h : Nat} {w : World} {b n cap : Nat} {xs : List (List Int)} (t : IntSS true l h w (.slice (some ⟨b, 0, none⟩) n cap) xs) {j : Nat} (hj : j < xs.length) (hh : h ≤ w.heap.size) :
    (∃ c, w.cell? ⟨b, j, none⟩ = some c) ∧ w.frozen? ⟨b, j, none⟩ = false ∧ ∀ u ts L' h', Nums true L' h' w u ts → h ≤ L' → h ≤ h' → IntSS true l h' (w.setCell ⟨b, j, none⟩ u) (.slice (some ⟨b, 0, none⟩) n cap) (xs.set j ts) := by
  obtain ⟨hb, ⟨cs, hl, hc⟩, hf, hu⟩ := Shape.row_fill (E := numsSh) t hj hh
  match cs, hl with
  | [c0], _ =>
    have c := hc 0 c0 rfl
    simp only [show numsSh.wd = 1 from rfl, Nat.mul_one, Nat.add_zero] at c hu
    refine ⟨⟨c0, c⟩, hf j, fun u ts L' h' tu hL hhh => ?_⟩
    refine hu _ [u] ts L' h' ((Shape.Chg.refl _ _ _ _ _ _).setCell (Nat.le_refl _) (by omega) u) (fun f x hx => ?_) ⟨u, rfl, tu⟩ (same_set (by omega)) hL hhh
    match f, hx with
    | 0, hx => simp only [List.getElem?_cons_zero, Option.some.injEq] at hx; subst hx; exact World.cell?_setCell_same _ _ _ c

set_option maxRecDepth 100000 in
set_option maxHeartbeats 1600000 in
theorem toIntSS_any (o l h v) (xs : List (List Int)) (w : World) (t : IntSS o l h w v xs) (hw : h ≤ w.heap.size) (hlen : xs.length ≤ 1048576) (hel : ∀ t ∈ xs, t.length ≤ 1048576) :
    Calls Try.prog 38 #[v] w fun e w' => ∃ u, e = .returned u ∧ Below w.heap.size w w' ∧ IntSS true w.heap.size w'.heap.size w' u xs := by
  obtain ⟨a, ca, rfl, la, ba⟩ := t.shape
  obtain ⟨i0, hi, hz0, hz1, hz2⟩ := info_parts intsInfo
  have HE := Lib.hid hel
  clear hel
  go_enter Try.func38, Try.ntmps38
  go_wp2_with (refine wpList_make_full _ rfl _ _ 22 rfl w.heap.size 33 i0 (.slice none 0 0) 1 Try.underlying22 hi hz0 hz1 .i64 .i64 _ _ xs.length rfl rfl rfl rfl (by rw [hz2]; omega) (by unfold maxLen; omega) (Nat.le_refl _) ?_; intro w1 hown hgr)
  have be1 : Below w.heap.size w w1 := (Below.refl _ _).grown hgr (Nat.le_refl _) (fun k e => by simp at e)
  have m1 := IntSS.made hown be1.size
  rw [← cp_zero] at m1
  clear hown hgr hi hz0 hz1 hz2
  go_loopw [4] (fun i wr => ∃ k : Nat, k ≤ xs.length ∧ i = .int .i64 k ∧ Below w.heap.size w wr ∧ IntSS true w.heap.size wr.heap.size wr (Value.slice (some ⟨w.heap.size, 0, none⟩) xs.length xs.length) (cp [] xs k)) (fun i _ => xs.length - (intOf i).toNat)
  case atStart => exact ⟨0, Nat.zero_le _, rfl, be1, m1⟩
  case round =>
    obtain ⟨k, hk, rfl, be, hm⟩ := hrel
    clear be1 m1
    have zb := be.size
    by_cases hlt : k < xs.length
    · obtain ⟨b, off, u, rfl, l1, m1, c1, tu⟩ := (t.keep be hw).at hlt
      obtain ⟨x, kx, rfl, lx, bx⟩ := tu.shape
      have hx1 := HE.out _ (List.getElem_mem hlt)
      go_wp2_with fail
      refine (toIntS_own h _ xs[k] _ tu.ints (by omega) (by omega)).mono ?_; rintro e w2 ⟨u2, rfl, f2, r2⟩
      obtain ⟨y, ky, rfl, ly, bly⟩ := r2.shape
      have be2 := be.trans (f2.mono be.size)
      have z2 := f2.size
      have hm2 := hm.keep f2 (Nat.le_refl _)
      have hcl := cp_length [] xs k hk
      obtain ⟨⟨cz, cw⟩, fw, st⟩ := hm2.fill (j := k) (by omega) z2
      have st2 := st _ _ _ _ r2 (Nat.le_refl _) z2
      rw [cp_set [] xs k hlt] at st2
      have be4 := be2.setCell (p := ⟨w.heap.size, k, none⟩) (Nat.le_refl _) (.slice y xs[k].length ky)
      clear hm hm2 st r2 be be2 hcl hx1
      go_wp2_with fail
      go_roundw
      case rel => exact ⟨k + 1, by omega, by go_num, be4, by simpa [World.setCell] using st2⟩
      case measure => simp [intOf]; omega
    · obtain rfl : k = xs.length := by omega
      rw [cp_end] at hm
      go_wp2_with fail
      go_ret
      exact ⟨_, rfl, be, hm⟩
set_option maxRecDepth 100000 in
set_option maxHeartbeats 1600000 in
theorem eqIntSS_same (o1 l1 h1 v o2 l2 h2 u) (xs : List (List Int)) (w : World) (t1 : IntSS o1 l1 h1 w v xs) (t2 : IntSS o2 l2 h2 w u xs) (hw1 : h1 ≤ w.heap.size) (hw2 : h2 ≤ w.heap.size) :
    Calls Try.prog 40 #[v, u] w fun e w' => e = .returned (.bool true) ∧ Below w.heap.size w w' := by
  obtain ⟨a, ca, rfl, la, ba⟩ := t1.shape
  obtain ⟨b, cb, rfl, lb, bb⟩ := t2.shape
  go_enter Try.func40, Try.ntmps40
  go_wp2_with fail
  go_loopw [5] (fun i wr => ∃ k : Nat, k ≤ xs.length ∧ i = .int .i64 k ∧ Below w.heap.size w wr) (fun i _ => xs.length - (intOf i).toNat)
  case atStart => exact ⟨0, Nat.zero_le _, rfl, Below.refl _ _⟩
  case round =>
    obtain ⟨k, hk, rfl, be⟩ := hrel
    by_cases hlt : k < xs.length
    · have s1 := t1.keep be hw1
      have s2 := t2.keep be hw2
      obtain ⟨b1, f1, x, rfl, q1, m1, c1, d1⟩ := s1.at hlt
      obtain ⟨b2, f2, y, rfl, q2, m2, c2, d2⟩ := s2.at hlt
      obtain ⟨x, kx, rfl, lx, bx⟩ := d1.shape
      obtain ⟨y, ky, rfl, ly, by'⟩ := d2.shape
      have zb := be.size
      have dz : Below wr.heap.size wr wr.drew := (Below.refl _ _).drew
      have zd : wr.heap.size ≤ wr.drew.heap.size := Nat.le_refl _
      have ed1 := d1.keep dz (by omega)
      have ed2 := d2.keep dz (by omega)
      clear s1 s2
      go_wp2_with fail
      go_region_held3 (fun w' => w'.cell? ⟨b1, f1 + k, none⟩ = some (.slice x xs[k].length kx) ∧ w'.cell? ⟨b2, f2 + k, none⟩ = some (.slice y xs[k].length ky)) (first | exact ⟨c1, c2⟩ | exact ⟨cell_keep f c1, cell_keep f c2⟩)
        (first | (go_at_call 19; refine (eqNums_same o1 l1 h1 _ o2 l2 h2 _ xs[k] wr.drew ed1 ed2 (by omega) (by omega)).mono ?_; rintro e w2 ⟨rfl, f⟩))
      go_wp2_with fail
      go_roundw
      case rel => exact ⟨k + 1, by omega, by go_num, be.drew.trans (f.mono be.size)⟩
      case measure => simp [intOf]; omega
    · go_wp2_with fail
      go_ret
      exact ⟨rfl, be⟩

set_option maxRecDepth 100000 in
set_option maxHeartbeats 1600000 in
theorem markIntSS_any (l h v) (xs : List (List Int)) (m : Nat) (w : World) (t : IntSS true l h w v xs) (hw : h ≤ w.heap.size) (hm : m + tot fI xs ≤ 4194304) :
    Calls Try.prog 42 #[v, .int .i64 m] w fun e w' => e = .returned (.int .i64 ((m + tot fI xs : Nat) : Int)) ∧ Only l h w w' ∧ IntSS true l h w' v (mkA gI fI m xs) := by
  obtain ⟨a, ka, rfl, la, ba⟩ := t.shape
  go_enter Try.func42, Try.ntmps42
  go_wp2_with fail
  go_loopw [1, 5] (fun n i wr => ∃ (k : Nat) (q : Int), k ≤ xs.length ∧ i = .int .i64 k ∧ n = .int .i64 q ∧ q = ((m + tot fI (xs.take k) : Nat) : Int) ∧ Only l h w wr ∧ IntSS true l h wr (.slice a xs.length ka) (mix gI fI m xs k)) (fun _ i _ => xs.length - (intOf i).toNat)
  case atStart => exact ⟨0, m, Nat.zero_le _, rfl, rfl, by simp [tot], Only.refl _ _ _, t⟩
  case round =>
    obtain ⟨k, q, hk, rfl, rfl, hq, on, ht⟩ := hrel
    have HQ := Lib.hid hq
    have zs := on.size
    have hle := tot_le fI xs (k + 1)
    clear hq t
    by_cases hlt : k < xs.length
    · have hst := tot_step (f := fI) hlt
      have hlen : (mix gI fI m xs k).length = xs.length := mix_length hk
      obtain ⟨b, off, cs, L, H, rfl, p1, p2, p3, p4, hc, ⟨u, rfl, tu⟩, ho⟩ := Shape.row_focus (E := numsSh) ht (j := k) (by omega)
      obtain ⟨d1, d2, d3⟩ := ho rfl
      rw [mix_at hlt] at tu
      have c0 : wr.cell? ⟨b, off + k, none⟩ = some u := by have := hc 0 u rfl; rwa [show numsSh.wd = 1 from rfl, Nat.mul_one, Nat.add_zero] at this
      obtain ⟨x, kx, rfl, lx, bx⟩ := tu.shape
      have bl : b < wr.heap.size := World.block_lt_of_cell? _ _ c0
      have q0 : 0 ≤ q := by have := HQ.out; omega
      have e2 : fI xs[k] = xs[k].length := rfl
      have q1 : q + (xs[k].length : Int) ≤ 4194304 := by have := HQ.out; omega
      have SET : Hid ((mix gI fI m xs k).set k (marksN q.toNat xs[k].length) = mix gI fI m xs (k + 1)) := Lib.hid (by rw [← mix_set hlt]; have := HQ.out; rw [show q.toNat = m + tot fI (xs.take k) from by omega]; rfl)
      have Q2 : Hid (q + (xs[k].length : Int) = ((m + tot fI (xs.take (k + 1)) : Nat) : Int)) := Lib.hid (by have := HQ.out; omega)
      clear hst hle hlen e2 ht ho
      go_wp2_with fail
      refine (markNums_int L H _ xs[k] q _ tu (by omega) (by omega) q0 (by omega)).mono ?_; rintro e w2 ⟨rfl, on2, tr⟩
      have up := d3 w2 [.slice x xs[k].length kx] _ L H h ((Shape.Chg.refl _ _ _ _ _ _).only on2 (Nat.le_refl _) (Nat.le_refl _) d1 bl) (fun f c hf => by rw [on2.cell bl d1]; exact hc f c hf) ⟨_, rfl, tr⟩ (by omega) (Nat.le_refl _) (.inl ⟨Nat.le_refl _, Nat.le_refl _⟩)
      rw [SET.out] at up
      have on3 : Only l h w w2 := on.trans (on2.wide p3 p4)
      clear d3 hc tr tu c0
      go_wp2_with fail
      go_roundw
      case rel => exact ⟨k + 1, _, by omega, by go_num, rfl, Q2.out, on3, up⟩
      case measure => simp [intOf]; omega
    · obtain rfl : k = xs.length := by omega
      rw [mix_end] at ht
      have E : Hid (q = ((m + tot fI xs : Nat) : Int)) := Lib.hid (by have := HQ.out; rwa [List.take_length] at this)
      clear HQ
      go_wp2_with fail
      go_ret
      exact ⟨by rw [E.out]; rfl, on, ht⟩

set_option maxRecDepth 100000 in
set_option maxHeartbeats 1600000 in
theorem szIntSS_left (o l h v) (ls : List (List Int)) (n : Int) (w : World) (t : IntSS o l h w v ls) (hw : h ≤ w.heap.size) (n0 : 0 ≤ n) (n1 : n ≤ 1048576) :
    Calls Try.prog 36 #[v, .int .i64 n] w fun e w' => e = .returned (.int .i64 (left n (szIs ls))) ∧ Below w.heap.size w w' := by
  obtain ⟨a, ka, rfl, la, ba⟩ := t.shape
  by_cases hl : n < ls.length
  · rw [left_no (by unfold szIs; omega)]
    go_enter Try.func36, Try.ntmps36
    go_wp2_with fail
    go_ret
    exact ⟨rfl, by (repeat (with_reducible first | exact bR _ _ | assumption | refine bD ?_ | refine bN ?_ _ | refine bA ?_ _ | refine bS ?_ _))⟩
  · go_enter Try.func36, Try.ntmps36
    go_wp2_with fail
    go_loopw [1, 5] (fun q i wr => ∃ (k : Nat) (m : Int), k ≤ ls.length ∧ q = .int .i64 m ∧ i = .int .i64 k ∧ 0 ≤ m ∧ m ≤ 1048576 ∧ m + ls.length + tot List.length (ls.take k) = n ∧ Below w.heap.size w wr) (fun q i _ => ls.length - (intOf i).toNat)
    case atStart => exact ⟨0, n - ls.length, Nat.zero_le _, rfl, rfl, by omega, by omega, by simp [tot_nil], Below.refl _ _⟩
    case round =>
      obtain ⟨k, m, hk, rfl, rfl, m0, m1, hs, be⟩ := hrel
      have HS := Lib.hid hs
      clear hs
      have zb := be.size
      by_cases hlt : k < ls.length
      · have st := tot_step (f := List.length) hlt
        have le := tot_le List.length ls (k + 1)
        obtain ⟨b, off, u, rfl, l1, m1', c1, tu⟩ := (t.keep be hw).at hlt
        obtain ⟨x, kx, rfl, lx, bx⟩ := tu.shape
        by_cases hm : m < ls[k].length
        · have E : Hid (left n (szIs ls) = -1) := Lib.hid (left_no (by have := HS.out; unfold szIs; omega))
          clear st le
          go_wp2_with fail
          refine (szInts_no o l h _ ls[k] m _ tu (by omega) m0 m1 hm).mono ?_; rintro e w2 ⟨rfl, f⟩
          go_wp2_with fail
          go_ret
          exact ⟨by rw [E.out]; rfl, be.trans (f.mono be.size)⟩
        · have E : Hid ((m - ls[k].length) + ls.length + tot List.length (ls.take (k + 1)) = n) := Lib.hid (by have := HS.out; omega)
          have hm' : 0 ≤ m - ls[k].length := by omega
          have hm2 : m - ls[k].length ≤ 1048576 := by omega
          have hm3 : (ls[k].length : Int) ≤ m := by omega
          clear st le hm
          go_wp2_with fail
          refine (szInts_ok o l h _ ls[k] m _ tu (by omega) m1 hm3).mono ?_; rintro e w2 ⟨rfl, f⟩
          go_wp2_with fail
          go_roundw
          case rel => exact ⟨k + 1, m - ls[k].length, by omega, rfl, by go_num, hm', hm2, E.out, be.trans (f.mono be.size)⟩
          case measure => simp [intOf]; omega
      · have hke : k = ls.length := by omega
        have E : Hid (left n (szIs ls) = m) := Lib.hid (by have := HS.out; rw [take_end hlt] at this; rw [left_ok (by unfold szIs; omega)]; unfold szIs; omega)
        clear hke
        go_wp2_with fail
        go_ret
        exact ⟨by rw [E.out]; rfl, be⟩

theorem szIntSS_ok (o l h v) (ls : List (List Int)) (n : Int) (w : World) (t : IntSS o l h w v ls) (hw : h ≤ w.heap.size) (n1 : n ≤ 1048576) (hn : (szIs ls : Int) ≤ n) :
    Calls Try.prog 36 #[v, .int .i64 n] w fun e w' => e = .returned (.int .i64 (n - (szIs ls : Nat))) ∧ Below w.heap.size w w' := by
  have := szIntSS_left o l h v ls n w t hw (by omega) n1
  rwa [left_ok (by omega)] at this
theorem szIntSS_no (o l h v) (ls : List (List Int)) (n : Int) (w : World) (t : IntSS o l h w v ls) (hw : h ≤ w.heap.size) (n0 : 0 ≤ n) (n1 : n ≤ 1048576) (hn : n < (szIs ls : Nat)) :
    Calls Try.prog 36 #[v, .int .i64 n] w fun e w' => e = .returned (.int .i64 (-1)) ∧ Below w.heap.size w w' := by
  have := szIntSS_left o l h v ls n w t hw n0 n1
  rwa [left_no hn] at this
end Go.Proofs.Ytcinpoeapbgnhaa.L
