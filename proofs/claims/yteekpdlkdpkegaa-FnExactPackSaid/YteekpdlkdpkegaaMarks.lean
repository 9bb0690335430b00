/- Marks of slices of combinations, hints, constraints, and of systems. -/
import Derived.Test.YteekpdlkdpkegaaSz
import Derived.Test.YteekpdlkdpkegaaCopy
namespace Go.Proofs.Yteekpdlkdpkegaa.L
open Go.RowKit Go.Proofs.Yteekpdlkdpkegaa.S
set_option linter.unusedVariables false
set_option linter.unusedSimpArgs false

/-- What marking leaves of a list: each element is marked on from where the one before it ended. -/
def mkA {α : Type} (g : Nat → α → α) (f : α → Nat) : Nat → List α → List α
  | _, [] => []
  | m, x :: r => g m x :: mkA g f (m + f x) r
theorem mkA_length {α : Type} (g : Nat → α → α) (f : α → Nat) (l : List α) : ∀ m, (mkA g f m l).length = l.length := by
  induction l with
  | nil => intro m; rfl
  | cons x r ih => intro m; simp [mkA, ih]
theorem mkA_snoc {α : Type} (g : Nat → α → α) (f : α → Nat) (l : List α) (x : α) : ∀ m, mkA g f m (l ++ [x]) = mkA g f m l ++ [g (m + tot f l) x] := by
  induction l with
  | nil => intro m; simp [mkA, tot]
  | cons y r ih => intro m; rw [List.cons_append, mkA, mkA, ih, show m + f y + tot f r = m + tot f (y :: r) from by simp [tot]; omega]; rfl
theorem mkA_at {α : Type} (g : Nat → α → α) (f : α → Nat) (l : List α) : ∀ m k (h : k < l.length), (mkA g f m l)[k]? = some (g (m + tot f (l.take k)) l[k]) := by
  induction l with
  | nil => intro m k h; simp at h
  | cons y r ih =>
    intro m k h
    cases k with
    | zero => simp [mkA, tot]
    | succ k =>
      simp only [mkA, List.getElem?_cons_succ]
      rw [ih (m + f y) k (by simpa using h), List.take_succ_cons, show m + f y + tot f (r.take k) = m + tot f (y :: r.take k) from by simp [tot]; omega]
      rfl
/-- Behind k rounds of marking. -/
def mix {α : Type} (g : Nat → α → α) (f : α → Nat) (m : Nat) (xs : List α) (k : Nat) : List α := mkA g f m (xs.take k) ++ xs.drop k
theorem mix_length {α : Type} {g : Nat → α → α} {f : α → Nat} {m : Nat} {xs : List α} {k : Nat} (h : k ≤ xs.length) : (mix g f m xs k).length = xs.length := by
  unfold mix; simp [mkA_length]; omega
theorem mix_at {α : Type} {g : Nat → α → α} {f : α → Nat} {m : Nat} {xs : List α} {k : Nat} (h : k < xs.length) (h' : k < (mix g f m xs k).length) : (mix g f m xs k)[k] = xs[k] := by
  have e : (mix g f m xs k)[k]? = some xs[k] := by
    unfold mix
    have hl : (mkA g f m (xs.take k)).length = k := by rw [mkA_length]; simp; omega
    rw [List.getElem?_append_right (by omega), hl, Nat.sub_self, List.drop_eq_getElem_cons h]; rfl
  rw [List.getElem?_eq_getElem h'] at e
  exact Option.some.inj e
theorem mix_set {α : Type} {g : Nat → α → α} {f : α → Nat} {m : Nat} {xs : List α} {k : Nat} (h : k < xs.length) : (mix g f m xs k).set k (g (m + tot f (xs.take k)) xs[k]) = mix g f m xs (k + 1) := by
  unfold mix
  have hl : (mkA g f m (xs.take k)).length = k := by rw [mkA_length]; simp; omega
  rw [List.set_append_right _ _ (by omega), hl, Nat.sub_self, List.drop_eq_getElem_cons h, List.set_cons_zero, take_step (List.getElem?_eq_getElem h), mkA_snoc, List.append_assoc]
  rfl
theorem mix_zero {α : Type} {g : Nat → α → α} {f : α → Nat} {m : Nat} {xs : List α} : mix g f m xs 0 = xs := rfl
theorem mix_end {α : Type} {g : Nat → α → α} {f : α → Nat} {m : Nat} {xs : List α} : mix g f m xs xs.length = mkA g f m xs := by simp [mix]

def fL (t : List T) : Nat := 2 * t.length
def gL (m : Nat) (t : List T) : List T := marks m t.length
def fH (x : HintC) : Nat := 2 + 2 * x.a.length + 2 * x.b.length
def gH (m : Nat) (x : HintC) : HintC := ⟨m, marks (m + 1) x.a.length, marks (m + 1 + 2 * x.a.length) x.b.length, (m + 1 + 2 * x.a.length + 2 * x.b.length : Nat)⟩
def fC (x : ConC) : Nat := 2 * x.a.length + 2 * x.b.length + 2 * x.c.length
def gC (m : Nat) (x : ConC) : ConC := ⟨marks m x.a.length, marks (m + 2 * x.a.length) x.b.length, marks (m + 2 * x.a.length + 2 * x.b.length) x.c.length⟩

theorem markTermS_int (l h : Nat) (v : Value) (ts : List T) (n : Int) (w : World) (h1 : Terms true l h w v ts) (hw : h ≤ w.heap.size) (hlen : ts.length ≤ 4194304) (n0 : 0 ≤ n) (n1 : n ≤ 16777216) :
    Calls Try.prog 69 #[v, .int .i64 n] w fun e w' => e = .returned (.int .i64 (n + 2 * (ts.length : Int))) ∧ Only l h w w' ∧ Terms true l h w' v (marks n.toNat ts.length) := by
  have := markTermS_any l h v ts n.toNat w h1 hw hlen (by omega)
  rw [show ((n.toNat : Nat) : Int) = n from by omega, show ((n.toNat + 2 * ts.length : Nat) : Int) = n + 2 * (ts.length : Int) from by omega] at this
  exact this
theorem heldTermS_int (own : Bool) (l h : Nat) (v : Value) (n : Int) (c : Nat) (w : World) (h1 : Terms own l h w v (marks n.toNat c)) (hlen : c ≤ 4194304) (n0 : 0 ≤ n) (n1 : n ≤ 16777216) :
    Calls Try.prog 72 #[v, .int .i64 n] w fun e w' => e = .returned (.int .i64 (n + 2 * (c : Int))) ∧ w = w' := by
  have := heldTermS_any own l h v c n.toNat w h1 hlen (by omega)
  rw [show ((n.toNat : Nat) : Int) = n from by omega, show ((n.toNat + 2 * c : Nat) : Int) = n + 2 * (c : Int) from by omega] at this
  exact this
theorem same_set2 {l h b o : Nat} {w : World} {u : Value} (hb : b < l ∨ h ≤ b) : Same l h w (w.setCell ⟨b, o, none⟩ u) := fun k h1 h2 => Below.heap_setCell _ _ _ _ (by simp; omega)

set_option maxRecDepth 100000 in
set_option maxHeartbeats 1600000 in
theorem markLinS_any (l h v) (xs : List (List T)) (m : Nat) (w : World) (t : LinS true l h w v xs) (hw : h ≤ w.heap.size) (hm : m + tot fL xs ≤ 8388608) :
    Calls Try.prog 32 #[v, .int .i64 m] w fun e w' => e = .returned (.int .i64 ((m + tot fL xs : Nat) : Int)) ∧ Only l h w w' ∧ LinS true l h w' v (mkA gL fL m xs) := by
  obtain ⟨a, ka, rfl, la, ba⟩ := t.shape
  go_enter Try.func32, Try.ntmps32
  go_wp2_with fail
  go_loopw [1, 5] (fun n i wr => ∃ (k : Nat) (q : Int), k ≤ xs.length ∧ i = .int .i64 k ∧ n = .int .i64 q ∧ q = ((m + tot fL (xs.take k) : Nat) : Int) ∧ Only l h w wr ∧ LinS true l h wr (.slice a xs.length ka) (mix gL fL m xs k)) (fun _ i _ => xs.length - (intOf i).toNat)
  case atStart => exact ⟨0, m, Nat.zero_le _, rfl, rfl, by simp [tot], Only.refl _ _ _, t⟩
  case round =>
    obtain ⟨k, q, hk, rfl, rfl, hq, on, ht⟩ := hrel
    have HQ := Lib.hid hq
    have zs := on.size
    have hle := tot_le fL xs (k + 1)
    clear hq t
    by_cases hlt : k < xs.length
    · have hst := tot_step (f := fL) hlt
      have hlen : (mix gL fL m xs k).length = xs.length := mix_length hk
      obtain ⟨b, off, cs, L, H, rfl, p1, p2, p3, p4, hc, ⟨u, rfl, tu⟩, ho⟩ := Shape.row_focus (E := Shape.lin) ht (j := k) (by omega)
      obtain ⟨d1, d2, d3⟩ := ho rfl
      rw [mix_at hlt] at tu
      have c0 : wr.cell? ⟨b, off + k, none⟩ = some u := by have := hc 0 u rfl; rwa [show Shape.lin.wd = 1 from rfl, Nat.mul_one, Nat.add_zero] at this
      obtain ⟨x, kx, rfl, lx, bx⟩ := tu.shape
      have bl : b < wr.heap.size := World.block_lt_of_cell? _ _ c0
      have q0 : 0 ≤ q := by have := HQ.out; omega
      have e2 : fL xs[k] = 2 * xs[k].length := rfl
      have q1 : q + 2 * (xs[k].length : Int) ≤ 8388608 := by have := HQ.out; omega
      have SET : Hid ((mix gL fL m xs k).set k (marks q.toNat xs[k].length) = mix gL fL m xs (k + 1)) := Lib.hid (by rw [← mix_set hlt]; have := HQ.out; rw [show q.toNat = m + tot fL (xs.take k) from by omega]; rfl)
      have Q2 : Hid (q + 2 * (xs[k].length : Int) = ((m + tot fL (xs.take (k + 1)) : Nat) : Int)) := Lib.hid (by have := HQ.out; omega)
      clear hst hle hlen e2 ht ho
      go_wp2_with fail
      refine (markTermS_int L H _ xs[k] q _ tu (by omega) (by omega) q0 (by omega)).mono ?_; rintro e w2 ⟨rfl, on2, tr⟩
      have up := d3 w2 [.slice x xs[k].length kx] _ L H h ((Shape.Chg.refl _ _ _ _ _ _).only on2 (Nat.le_refl _) (Nat.le_refl _) d1 bl) (fun f c hf => by rw [on2.cell bl d1]; exact hc f c hf) ⟨_, rfl, tr⟩ (by omega) (Nat.le_refl _) (.inl ⟨Nat.le_refl _, Nat.le_refl _⟩)
      rw [SET.out] at up
      have on3 : Only l h w w2 := on.trans (on2.wide p3 p4)
      clear d3 hc tr tu c0
      go_wp2_with fail
      go_roundw
      case rel => exact ⟨k + 1, _, by omega, by go_num, rfl, Q2.out, on3, up⟩
      case measure => simp [intOf]; omega
    · obtain rfl : k = xs.length := by omega
      rw [mix_end] at ht
      have E : Hid (q = ((m + tot fL xs : Nat) : Int)) := Lib.hid (by have := HQ.out; rwa [List.take_length] at this)
      clear HQ
      go_wp2_with fail
      go_ret
      exact ⟨by rw [E.out]; rfl, on, ht⟩

set_option maxRecDepth 100000 in
set_option maxHeartbeats 3200000 in
theorem markConS_any (l h v) (xs : List ConC) (m : Nat) (w : World) (t : ConS true l h w v xs) (hw : h ≤ w.heap.size) (hm : m + tot fC xs ≤ 8388608) :
    Calls Try.prog 68 #[v, .int .i64 m] w fun e w' => e = .returned (.int .i64 ((m + tot fC xs : Nat) : Int)) ∧ Only l h w w' ∧ ConS true l h w' v (mkA gC fC m xs) := by
  obtain ⟨a, ka, rfl, la, ba⟩ := t.shape
  go_enter Try.func68, Try.ntmps68
  go_wp2_with fail
  go_loopw [1, 5] (fun n i wr => ∃ (k : Nat) (q : Int), k ≤ xs.length ∧ i = .int .i64 k ∧ n = .int .i64 q ∧ q = ((m + tot fC (xs.take k) : Nat) : Int) ∧ Only l h w wr ∧ ConS true l h wr (.slice a xs.length ka) (mix gC fC m xs k)) (fun _ i _ => xs.length - (intOf i).toNat)
  case atStart => exact ⟨0, m, Nat.zero_le _, rfl, rfl, by simp [tot], Only.refl _ _ _, t⟩
  case round =>
    obtain ⟨k, q, hk, rfl, rfl, hq, on, ht⟩ := hrel
    have HQ := Lib.hid hq
    have zs := on.size
    have hle := tot_le fC xs (k + 1)
    clear hq t
    by_cases hlt : k < xs.length
    · have hst := tot_step (f := fC) hlt
      have hlen : (mix gC fC m xs k).length = xs.length := mix_length hk
      obtain ⟨b, off, cs, L, H, rfl, p1, p2, p3, p4, hc, ⟨va, vb, vc, l1, h1, l2, h2, l3, h3, rfl, e1, e2, e3, e4, e5, e6, dis, ta, tb, tc⟩, ho⟩ := Shape.row_focus (E := conSh) ht (j := k) (by omega)
      obtain ⟨d1, d2, d3⟩ := ho rfl
      obtain ⟨s1, s2, s3⟩ := dis rfl
      rw [mix_at hlt] at ta tb tc
      have c0 : wr.cell? ⟨b, off + k * 3, none⟩ = some va := hc 0 _ rfl
      have c1 : wr.cell? ⟨b, off + k * 3 + 1, none⟩ = some vb := hc 1 _ rfl
      have c2 : wr.cell? ⟨b, off + k * 3 + 2, none⟩ = some vc := hc 2 _ rfl
      obtain ⟨x, kx, rfl, lx, bx⟩ := ta.shape
      obtain ⟨y, ky, rfl, ly, by'⟩ := tb.shape
      obtain ⟨z, kz, rfl, lz, bz⟩ := tc.shape
      have bl : b < wr.heap.size := World.block_lt_of_cell? _ _ c0
      have q0 : 0 ≤ q := by have := HQ.out; omega
      have ef : fC xs[k] = 2 * xs[k].a.length + 2 * xs[k].b.length + 2 * xs[k].c.length := rfl
      have q1 : q + 2 * (xs[k].a.length : Int) + 2 * (xs[k].b.length : Int) + 2 * (xs[k].c.length : Int) ≤ 8388608 := by have := HQ.out; omega
      have SET : Hid ((mix gC fC m xs k).set k ⟨marks q.toNat xs[k].a.length, marks (q + 2 * (xs[k].a.length : Int)).toNat xs[k].b.length, marks (q + 2 * (xs[k].a.length : Int) + 2 * (xs[k].b.length : Int)).toNat xs[k].c.length⟩ = mix gC fC m xs (k + 1)) := Lib.hid (by
        rw [← mix_set hlt]; have := HQ.out
        rw [show (q + 2 * (xs[k].a.length : Int) + 2 * (xs[k].b.length : Int)).toNat = m + tot fC (xs.take k) + 2 * xs[k].a.length + 2 * xs[k].b.length from by omega, show (q + 2 * (xs[k].a.length : Int)).toNat = m + tot fC (xs.take k) + 2 * xs[k].a.length from by omega, show q.toNat = m + tot fC (xs.take k) from by omega]; rfl)
      have Q2 : Hid (q + 2 * (xs[k].a.length : Int) + 2 * (xs[k].b.length : Int) + 2 * (xs[k].c.length : Int) = ((m + tot fC (xs.take (k + 1)) : Nat) : Int)) := Lib.hid (by have := HQ.out; omega)
      have n1 : 0 ≤ q + 2 * (xs[k].a.length : Int) := by omega
      have n2 : 0 ≤ q + 2 * (xs[k].a.length : Int) + 2 * (xs[k].b.length : Int) := by omega
      clear hst hle hlen ef ht ho
      go_wp2_with fail
      refine (markTermS_int l1 h1 _ xs[k].a q _ ta (by omega) (by omega) q0 (by omega)).mono ?_; rintro e w2 ⟨rfl, on2, tra⟩
      have z2 := on2.size
      have tb2 := tb.only on2 (by omega) (by omega)
      have tc2 := tc.only on2 (by omega) (by omega)
      have c1' := (on2.cell bl (by omega) (off + k * 3 + 1)).trans c1
      have c2' := (on2.cell bl (by omega) (off + k * 3 + 2)).trans c2
      have bl2 : b < w2.heap.size := by omega
      clear ta tb tc c0 c1 c2
      go_wp2_with fail
      refine (markTermS_int l2 h2 _ xs[k].b (q + 2 * (xs[k].a.length : Int)) _ tb2 (by omega) (by omega) n1 (by omega)).mono ?_; rintro e w3 ⟨rfl, on3, trb⟩
      have z3 := on3.size
      have tra3 := tra.only on3 (by omega) (by omega)
      have tc3 := tc2.only on3 (by omega) (by omega)
      have c2'' := (on3.cell bl2 (by omega) (off + k * 3 + 2)).trans c2'
      have bl3 : b < w3.heap.size := by omega
      clear tra tb2 tc2 c1' c2'
      go_wp2_with fail
      refine (markTermS_int l3 h3 _ xs[k].c (q + 2 * (xs[k].a.length : Int) + 2 * (xs[k].b.length : Int)) _ tc3 (by omega) (by omega) n2 (by omega)).mono ?_; rintro e w4 ⟨rfl, on4, trc⟩
      have z4 := on4.size
      have tra4 := tra3.only on4 (by omega) (by omega)
      have trb4 := trb.only on4 (by omega) (by omega)
      have ch := (((Shape.Chg.refl b (off + k * 3) 3 L H wr).only on2 e1 e2 (by omega) bl).only on3 e3 e4 (by omega) bl).only on4 e5 e6 (by omega) bl
      have up := d3 w4 [.slice x xs[k].a.length kx, .slice y xs[k].b.length ky, .slice z xs[k].c.length kz] ⟨_, _, _⟩ L H h ch (fun f c hf => by
        rw [on4.cell bl3 (by omega), on3.cell bl2 (by omega), on2.cell bl (by omega)]; exact hc f c hf) ⟨_, _, _, l1, h1, l2, h2, l3, h3, by simp [marks_length], e1, e2, e3, e4, e5, e6, fun _ => ⟨s1, s2, s3⟩, tra4, trb4, trc⟩ (by omega) (Nat.le_refl _) (.inl ⟨Nat.le_refl _, Nat.le_refl _⟩)
      rw [SET.out] at up
      have on5 : Only l h w w4 := ((on.trans (on2.wide (by omega) (by omega))).trans (on3.wide (by omega) (by omega))).trans (on4.wide (by omega) (by omega))
      clear d3 hc tra4 trb4 trc tra3 trb tc3 ch c2''
      go_wp2_with fail
      go_roundw
      case rel => exact ⟨k + 1, _, by omega, by go_num, rfl, Q2.out, on5, up⟩
      case measure => simp [intOf]; omega
    · obtain rfl : k = xs.length := by omega
      rw [mix_end] at ht
      have E : Hid (q = ((m + tot fC xs : Nat) : Int)) := Lib.hid (by have := HQ.out; rwa [List.take_length] at this)
      clear HQ
      go_wp2_with fail
      go_ret
      exact ⟨by rw [E.out]; rfl, on, ht⟩

set_option maxRecDepth 100000 in
set_option maxHeartbeats 3200000 in
theorem markHintS_any (l h v) (xs : List HintC) (m : Nat) (w : World) (t : HintS true l h w v xs) (hw : h ≤ w.heap.size) (hm : m + tot fH xs ≤ 8388608) :
    Calls Try.prog 67 #[v, .int .i64 m] w fun e w' => e = .returned (.int .i64 ((m + tot fH xs : Nat) : Int)) ∧ Only l h w w' ∧ HintS true l h w' v (mkA gH fH m xs) := by
  obtain ⟨a, ka, rfl, la, ba⟩ := t.shape
  go_enter Try.func67, Try.ntmps67
  go_wp2_with fail
  go_loopw [1, 5] (fun n i wr => ∃ (k : Nat) (q : Int), k ≤ xs.length ∧ i = .int .i64 k ∧ n = .int .i64 q ∧ q = ((m + tot fH (xs.take k) : Nat) : Int) ∧ Only l h w wr ∧ HintS true l h wr (.slice a xs.length ka) (mix gH fH m xs k)) (fun _ i _ => xs.length - (intOf i).toNat)
  case atStart => exact ⟨0, m, Nat.zero_le _, rfl, rfl, by simp [tot], Only.refl _ _ _, t⟩
  case round =>
    obtain ⟨k, q, hk, rfl, rfl, hq, on, ht⟩ := hrel
    have HQ := Lib.hid hq
    have zs := on.size
    have hle := tot_le fH xs (k + 1)
    clear hq t
    by_cases hlt : k < xs.length
    · have hst := tot_step (f := fH) hlt
      have hlen : (mix gH fH m xs k).length = xs.length := mix_length hk
      obtain ⟨b, off, cs, L, H, rfl, p1, p2, p3, p4, hc, ⟨va, vb, l1, h1, l2, h2, rfl, f0, f3, e1, e2, e3, e4, dis, ta, tb⟩, ho⟩ := Shape.row_focus (E := hintSh) ht (j := k) (by omega)
      obtain ⟨d1, d2, d3⟩ := ho rfl
      have s1 := dis rfl
      have c0 : wr.cell? ⟨b, off + k * 4, none⟩ = some _ := hc 0 _ rfl
      have c1 : wr.cell? ⟨b, off + k * 4 + 1, none⟩ = some va := hc 1 _ rfl
      have c2 : wr.cell? ⟨b, off + k * 4 + 2, none⟩ = some vb := hc 2 _ rfl
      have c3 : wr.cell? ⟨b, off + k * 4 + 3, none⟩ = some _ := hc 3 _ rfl
      rw [mix_at hlt] at ta tb c0 c3
      clear hc f0 f3 dis
      obtain ⟨x, kx, rfl, lx, bx⟩ := ta.shape
      obtain ⟨y, ky, rfl, ly, by'⟩ := tb.shape
      have bl : b < wr.heap.size := World.block_lt_of_cell? _ _ c0
      have fz0 := d2 (off + k * 4)
      have fz3 := d2 (off + k * 4 + 3)
      have q0 : 0 ≤ q := by have := HQ.out; omega
      have ef : fH xs[k] = 2 + 2 * xs[k].a.length + 2 * xs[k].b.length := rfl
      have q1 : q + 1 + 2 * (xs[k].a.length : Int) + 2 * (xs[k].b.length : Int) + 1 ≤ 8388608 := by have := HQ.out; omega
      have SET : Hid ((mix gH fH m xs k).set k ⟨q, marks (q + 1).toNat xs[k].a.length, marks (q + 1 + 2 * (xs[k].a.length : Int)).toNat xs[k].b.length, q + 1 + 2 * (xs[k].a.length : Int) + 2 * (xs[k].b.length : Int)⟩ = mix gH fH m xs (k + 1)) := Lib.hid (by
        rw [← mix_set hlt]; have := HQ.out
        rw [show (q + 1 + 2 * (xs[k].a.length : Int)).toNat = m + tot fH (xs.take k) + 1 + 2 * xs[k].a.length from by omega, show (q + 1).toNat = m + tot fH (xs.take k) + 1 from by omega]
        rw [show q + 1 + 2 * (xs[k].a.length : Int) + 2 * (xs[k].b.length : Int) = ((m + tot fH (xs.take k) + 1 + 2 * xs[k].a.length + 2 * xs[k].b.length : Nat) : Int) from by omega, show q = ((m + tot fH (xs.take k) : Nat) : Int) from this]; rfl)
      have Q2 : Hid (q + 1 + 2 * (xs[k].a.length : Int) + 2 * (xs[k].b.length : Int) + 1 = ((m + tot fH (xs.take (k + 1)) : Nat) : Int)) := Lib.hid (by have := HQ.out; omega)
      have n1 : 0 ≤ q + 1 := by omega
      have n2 : 0 ≤ q + 1 + 2 * (xs[k].a.length : Int) := by omega
      have n3 : 0 ≤ q + 1 + 2 * (xs[k].a.length : Int) + 2 * (xs[k].b.length : Int) := by omega
      clear hst hle hlen ef ht ho d2
      have c1s : ∀ u, (wr.setCell ⟨b, off + k * 4, none⟩ u).cell? ⟨b, off + k * 4 + 1, none⟩ = some (.slice x xs[k].a.length kx) := fun u => (World.cell?_setCell_other _ _ _ _ (by simp)).trans c1
      go_wp2_with fail
      refine name_call fun w1 hw1 => ?_
      have z1 : w1.heap.size = wr.heap.size := by rw [hw1]; simp [World.setCell]
      have ta1 : Terms true l1 h1 w1 _ _ := ta.agree (by rw [hw1]; exact same_set2 (by omega))
      have tb1 : Terms true l2 h2 w1 _ _ := tb.agree (by rw [hw1]; exact same_set2 (by omega))
      have g0 : w1.cell? ⟨b, off + k * 4, none⟩ = some (.int .i64 q) := by rw [hw1]; exact World.cell?_setCell_same _ _ _ c0
      have g1 : w1.cell? ⟨b, off + k * 4 + 1, none⟩ = some (.slice x xs[k].a.length kx) := by rw [hw1]; exact c1s _
      have g2 : w1.cell? ⟨b, off + k * 4 + 2, none⟩ = some (.slice y xs[k].b.length ky) := by rw [hw1]; exact (World.cell?_setCell_other _ _ _ _ (by simp)).trans c2
      have g3 : w1.cell? ⟨b, off + k * 4 + 3, none⟩ = some (.int .i64 xs[k].k) := by rw [hw1]; exact (World.cell?_setCell_other _ _ _ _ (by simp)).trans c3
      have fz1 : w1.frozen? ⟨b, off + k * 4 + 3, none⟩ = false := by rw [hw1, World.frozen?_setCell]; exact fz3
      have on1 : Only l h w w1 := by rw [hw1]; exact on.setCell p1 p2 _
      have ch1 : Shape.Chg b (off + k * 4) 4 L H wr w1 := by rw [hw1]; exact (Shape.Chg.refl _ _ _ _ _ _).setCell (Nat.le_refl _) (by omega) _
      have bl1 : b < w1.heap.size := by omega
      clear hw1 c0 c1 c2 c3 c1s ta tb fz0 fz3
      refine (markTermS_int l1 h1 _ xs[k].a (q + 1) _ ta1 (by omega) (by omega) n1 (by omega)).mono ?_; rintro e w2 ⟨rfl, on2, tra⟩
      have z2 := on2.size
      have tb2 := tb1.only on2 (by omega) (by omega)
      have i0 := (on2.cell bl1 (by omega) (off + k * 4)).trans g0
      have i1 := (on2.cell bl1 (by omega) (off + k * 4 + 1)).trans g1
      have i2 := (on2.cell bl1 (by omega) (off + k * 4 + 2)).trans g2
      have i3 := (on2.cell bl1 (by omega) (off + k * 4 + 3)).trans g3
      have fz2 := (on2.frozen bl1 (by omega) (off + k * 4 + 3)).trans fz1
      have ch2 := ch1.only on2 e1 e2 (by omega) bl
      have bl2 : b < w2.heap.size := by omega
      clear g0 g1 g2 g3 fz1 ta1 tb1 ch1
      go_wp2_with fail
      refine (markTermS_int l2 h2 _ xs[k].b (q + 1 + 2 * (xs[k].a.length : Int)) _ tb2 (by omega) (by omega) n2 (by omega)).mono ?_; rintro e w3 ⟨rfl, on3, trb⟩
      have z3 := on3.size
      have tra3 := tra.only on3 (by omega) (by omega)
      have j0 := (on3.cell bl2 (by omega) (off + k * 4)).trans i0
      have j1 := (on3.cell bl2 (by omega) (off + k * 4 + 1)).trans i1
      have j2 := (on3.cell bl2 (by omega) (off + k * 4 + 2)).trans i2
      have j3 := (on3.cell bl2 (by omega) (off + k * 4 + 3)).trans i3
      have fzl := (on3.frozen bl2 (by omega) (off + k * 4 + 3)).trans fz2
      have ch3 := (ch2.only on3 e3 e4 (by omega) bl).setCell (i := off + k * 4 + 3) (by omega) (by omega) (.int .i64 (q + 1 + 2 * (xs[k].a.length : Int) + 2 * (xs[k].b.length : Int)))
      have ua := tra3.agree (same_set2 (b := b) (o := off + k * 4 + 3) (u := .int .i64 (q + 1 + 2 * (xs[k].a.length : Int) + 2 * (xs[k].b.length : Int))) (by omega))
      have ub := trb.agree (same_set2 (b := b) (o := off + k * 4 + 3) (u := .int .i64 (q + 1 + 2 * (xs[k].a.length : Int) + 2 * (xs[k].b.length : Int))) (by omega))
      have r0 := (World.cell?_setCell_other w3 ⟨b, off + k * 4 + 3, none⟩ ⟨b, off + k * 4, none⟩ (.int .i64 (q + 1 + 2 * (xs[k].a.length : Int) + 2 * (xs[k].b.length : Int))) (by simp)).trans j0
      have r1 := (World.cell?_setCell_other w3 ⟨b, off + k * 4 + 3, none⟩ ⟨b, off + k * 4 + 1, none⟩ (.int .i64 (q + 1 + 2 * (xs[k].a.length : Int) + 2 * (xs[k].b.length : Int))) (by simp)).trans j1
      have r2 := (World.cell?_setCell_other w3 ⟨b, off + k * 4 + 3, none⟩ ⟨b, off + k * 4 + 2, none⟩ (.int .i64 (q + 1 + 2 * (xs[k].a.length : Int) + 2 * (xs[k].b.length : Int))) (by simp)).trans j2
      have r3 := World.cell?_setCell_same w3 ⟨b, off + k * 4 + 3, none⟩ (.int .i64 (q + 1 + 2 * (xs[k].a.length : Int) + 2 * (xs[k].b.length : Int))) j3
      have up := d3 _ [.int .i64 q, .slice x xs[k].a.length kx, .slice y xs[k].b.length ky, .int .i64 (q + 1 + 2 * (xs[k].a.length : Int) + 2 * (xs[k].b.length : Int))] ⟨q, _, _, q + 1 + 2 * (xs[k].a.length : Int) + 2 * (xs[k].b.length : Int)⟩ L H h ch3 (fun f c hf => by
        match f, hf with
        | 0, hf => simp only [List.getElem?_cons_zero, Option.some.injEq] at hf; subst hf; exact r0
        | 1, hf => simp only [List.getElem?_cons_succ, List.getElem?_cons_zero, Option.some.injEq] at hf; subst hf; exact r1
        | 2, hf => simp only [List.getElem?_cons_succ, List.getElem?_cons_zero, Option.some.injEq] at hf; subst hf; exact r2
        | 3, hf => simp only [List.getElem?_cons_succ, List.getElem?_cons_zero, Option.some.injEq] at hf; subst hf; exact r3)
        ⟨_, _, l1, h1, l2, h2, by simp [marks_length], by unfold Fits; simp only; omega, by unfold Fits; simp only; omega, e1, e2, e3, e4, fun _ => s1, ua, ub⟩ (by omega) (Nat.le_refl _) (.inl ⟨Nat.le_refl _, Nat.le_refl _⟩)
      rw [SET.out] at up
      have on5 := ((on1.trans (on2.wide (by omega) (by omega))).trans (on3.wide (by omega) (by omega))).setCell (p := ⟨b, off + k * 4 + 3, none⟩) p1 p2 (.int .i64 (q + 1 + 2 * (xs[k].a.length : Int) + 2 * (xs[k].b.length : Int)))
      clear d3 tra tra3 trb ua ub ch2 ch3 r0 r1 r2 r3 i0 i1 i2 i3 fz2 tb2 j0 j1 j2
      go_wp2_with fail
      go_roundw
      case rel => exact ⟨k + 1, _, by omega, by go_num, rfl, Q2.out, on5, up⟩
      case measure => simp [intOf]; omega
    · obtain rfl : k = xs.length := by omega
      rw [mix_end] at ht
      have E : Hid (q = ((m + tot fH xs : Nat) : Int)) := Lib.hid (by have := HQ.out; rwa [List.take_length] at this)
      clear HQ
      go_wp2_with fail
      go_ret
      exact ⟨by rw [E.out]; rfl, on, ht⟩

def totS (s : SysC) : Nat := tot fL s.outs + tot fH s.hints + tot fC s.cons
def mkS (m : Nat) (s : SysC) : SysC := ⟨s.ins, mkA gL fL m s.outs, mkA gH fH (m + tot fL s.outs) s.hints, mkA gC fC (m + tot fL s.outs + tot fH s.hints) s.cons⟩
theorem tot_fL (xs : List (List T)) : tot fL xs = 2 * tot List.length xs := by
  induction xs with
  | nil => rfl
  | cons x r ih => simp only [tot, List.map_cons, List.sum_cons, fL] at *; omega
theorem tot_fH (xs : List HintC) : tot fH xs = 2 * xs.length + 2 * tot szH xs := by
  induction xs with
  | nil => rfl
  | cons x r ih => simp only [tot, List.map_cons, List.sum_cons, fH, szH, List.length_cons] at *; omega
theorem tot_fC (xs : List ConC) : tot fC xs = 2 * tot szC xs := by
  induction xs with
  | nil => rfl
  | cons x r ih => simp only [tot, List.map_cons, List.sum_cons, fC, szC] at *; omega
theorem totS_le (s : SysC) : totS s ≤ 2 * szS s := by
  unfold totS szS szLs szHs szCs
  rw [tot_fL, tot_fH, tot_fC]; omega

set_option maxRecDepth 100000 in
set_option maxHeartbeats 3200000 in
theorem markSys_any (l h vi vo vh vc) (s : SysC) (m : Nat) (w : World) (t : SysR true l h w vi vo vh vc s) (hw : h ≤ w.heap.size) (hm : m + totS s ≤ 8388608) :
    Calls Try.prog 21 #[.agg #[vi, vo, vh, vc], .int .i64 m] w fun e w' => e = .returned (.int .i64 ((m + totS s : Nat) : Int)) ∧ Only l h w w' ∧ SysR true l h w' vi vo vh vc (mkS m s) := by
  obtain ⟨ao, ko, ah, kh, ac, kc, rfl, rfl, rfl, rfl, lo, bo, lh, bh, lc, bc, fi⟩ := t.shape
  obtain ⟨-, -, l1, h1, l2, h2, l3, h3, p1, p2, p3, p4, p5, p6, dis, tO, tH, tC⟩ := t
  obtain ⟨s1, s2, s3⟩ := dis rfl
  have hm' : m + tot fL s.outs + tot fH s.hints + tot fC s.cons ≤ 8388608 := by unfold totS at hm; omega
  rw [show m + totS s = m + tot fL s.outs + tot fH s.hints + tot fC s.cons from by unfold totS; omega]
  clear hm dis
  obtain ⟨m1, hm1⟩ : ∃ q : Nat, q = m + tot fL s.outs := ⟨_, rfl⟩
  obtain ⟨m2, hm2⟩ : ∃ q : Nat, q = m1 + tot fH s.hints := ⟨_, rfl⟩
  have MK : Hid (mkS m s = ⟨s.ins, mkA gL fL m s.outs, mkA gH fH m1 s.hints, mkA gC fC m2 s.cons⟩) := Lib.hid (by unfold mkS; rw [hm2, hm1])
  have N1 := markLinS_any l1 h1 (.slice ao s.outs.length ko) s.outs m
  have N2 := markHintS_any l2 h2 (.slice ah s.hints.length kh) s.hints m1
  have N3 := markConS_any l3 h3 (.slice ac s.cons.length kc) s.cons m2
  rw [← hm1] at N1
  rw [← hm2] at N2
  rw [← hm1, ← hm2]
  rw [← hm1, ← hm2] at hm'
  have H1 := Lib.hid N1
  have H2 := Lib.hid N2
  have H3 := Lib.hid N3
  have B1 : m1 ≤ 8388608 := by omega
  have B2 : m2 ≤ 8388608 := by omega
  have C1 : m + tot fL s.outs ≤ 8388608 := by omega
  have C2 : m1 + tot fH s.hints ≤ 8388608 := by omega
  clear N1 N2 N3 hm1 hm2
  go_enter Try.func21, Try.ntmps21
  go_wp2_with fail
  refine name_call fun w1 hw1 => ?_
  have o1 : Only l h w w1 := by rw [hw1]; (repeat (first | with_reducible exact Only.refl _ _ _ | with_reducible assumption | with_reducible refine Only.drew ?_ | with_reducible refine odrewN ?_ _ | with_reducible refine Only.alloc ?_ _ | ((with_reducible refine oset ?_ ?_ ?_ _); (focus (first | with_reducible exact Nat.le_refl _ | (simp; done) | omega | (simp; omega) | exact Nat.le_refl _)); (focus (first | with_reducible exact Nat.le_refl _ | (simp; done) | omega | (simp; omega) | exact Nat.le_refl _)))))
  have b1 : Below w.heap.size w w1 := by rw [hw1]; (repeat (first | with_reducible exact Below.refl _ _ | with_reducible assumption | with_reducible refine Below.drew ?_ | with_reducible refine bdrewN ?_ _ | ((with_reducible refine balloc ?_ ?_ _); (focus (first | with_reducible exact Nat.le_refl _ | (simp; done) | omega | (simp; omega) | exact Nat.le_refl _))) | ((with_reducible refine bset ?_ ?_ _); (focus (first | with_reducible exact Nat.le_refl _ | (simp; done) | omega | (simp; omega) | exact Nat.le_refl _)))))
  have z1 : w.heap.size + 1 ≤ w1.heap.size := by rw [hw1]; simp
  have cH : w1.cell? ⟨w.heap.size, 2, none⟩ = some (.slice ah s.hints.length kh) := by rw [hw1]; first | (simp; done) | go_simp
  have cC : w1.cell? ⟨w.heap.size, 3, none⟩ = some (.slice ac s.cons.length kc) := by rw [hw1]; first | (simp; done) | go_simp
  have tO1 := tO.keep b1 (by omega)
  have tH1 := tH.keep b1 (by omega)
  have tC1 := tC.keep b1 (by omega)
  clear hw1 tO tH tC
  refine (H1.out w1 tO1 (by omega) B1).mono ?_; rintro e w2 ⟨rfl, on2, rO⟩
  have z2 := on2.size
  have o2 := o1.trans (on2.wide p1 p2)
  have cH2 := (on2.cell (b := w.heap.size) (by omega) (by omega) 2).trans cH
  have cC2 := (on2.cell (b := w.heap.size) (by omega) (by omega) 3).trans cC
  have tH2 := tH1.agree (Same.of_only on2 (by omega) (by omega))
  have tC2 := tC1.agree (Same.of_only on2 (by omega) (by omega))
  have lw2 : w.heap.size < w2.heap.size := by omega
  clear cH cC tO1 tH1 tC1
  go_wp2_with fail
  refine (H2.out w2 tH2 (by omega) B2).mono ?_; rintro e w3 ⟨rfl, on3, rH⟩
  have z3 := on3.size
  have o3 := o2.trans (on3.wide p3 p4)
  have cC3 := (on3.cell (b := w.heap.size) (by omega) (by omega) 3).trans cC2
  have rO3 := rO.agree (Same.of_only on3 (by omega) (by omega))
  have tC3 := tC2.agree (Same.of_only on3 (by omega) (by omega))
  have lw3 : w.heap.size < w3.heap.size := by omega
  clear cH2 cC2 tH2 tC2 rO lw2
  go_wp2_with fail
  refine (H3.out w3 tC3 (by omega) hm').mono ?_; rintro e w4 ⟨rfl, on4, rC⟩
  have o4 := o3.trans (on4.wide p5 p6)
  have rO4 := rO3.agree (Same.of_only on4 (by omega) (by omega))
  have rH4 := rH.agree (Same.of_only on4 (by omega) (by omega))
  clear cC3 rO3 rH tC3
  go_wp2_with fail
  go_ret
  exact ⟨rfl, o4, by rw [MK.out]; exact ⟨rfl, fi, l1, h1, l2, h2, l3, h3, p1, p2, p3, p4, p5, p6, fun _ => ⟨s1, s2, s3⟩, rO4, rH4, rC⟩⟩
end Go.Proofs.Yteekpdlkdpkegaa.L
