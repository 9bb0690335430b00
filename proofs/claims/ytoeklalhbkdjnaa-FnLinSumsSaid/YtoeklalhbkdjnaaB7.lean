/- B7: With SysOk Gate -/
import Derived.Test.YtoeklalhbkdjnaaB6
import Derived.Test.YtoeklalhbkdjnaaB1
import Derived.Test.YtoeklalhbkdjnaaB4
import Derived.Test.YtoeklalhbkdjnaaB4
set_option linter.unusedVariables false
set_option linter.unusedSimpArgs false
/- Valid hints and constraints: the program's functions. -/
namespace Go.Proofs.Ytoeklalhbkdjnaa.L
open Go.RowKit Go.Proofs.Ytoeklalhbkdjnaa.S
set_option linter.unusedVariables false
set_option linter.unusedSimpArgs false

/-- Valid, and of the variables below n alone. -/
def linW (n : Int) (ts : List T) : Bool := linOk ts && decide (∀ t ∈ ts, t.1 < n)
def conW (n : Int) (c : ConC) : Bool := linW n c.a && (linW n c.b && linW n c.c)
/-- The numbers of a hint are right. -/
def kindOk (h : HintC) : Bool := decide ((h.kind = 0 ∨ h.kind = 3) ∧ h.k = 0 ∨ h.b.length = 0 ∧ (h.kind = 1 ∧ 0 ≤ h.k ∧ h.k ≤ 30 ∨ h.kind = 2 ∧ h.k = 0))
def hintW (n : Int) (h : HintC) : Bool := linW n h.a && (linW n h.b && kindOk h)
theorem linW_no {n : Int} {ts : List T} (h : linOk ts = false) : linW n ts = false := by simp [linW, h]
theorem linW_nil (n : Int) : linW n [] = true := by simp [linW, linOk, okFrom]
theorem linW_last {ts : List T} (h : linOk ts = true) {x y n : Int} (hl : ts[ts.length - 1]? = some (x, y)) : linW n ts = decide (x < n) := by
  have hg : ts.getLast? = some (x, y) := by rw [List.getLast?_eq_getElem?]; exact hl
  have hle := okFrom_last h hg
  unfold linW
  rw [h, Bool.true_and, decide_eq_decide]
  refine ⟨fun hh => hh (x, y) (List.mem_of_getLast? hg), fun hx t ht => ?_⟩
  have := hle t ht
  simp only at this
  omega
theorem linW_within {n : Nat} {ts : List T} : linW n ts = (linOk ts && within n ts) := rfl

set_option maxRecDepth 100000 in
set_option maxHeartbeats 1600000 in
theorem withinI_any (o l h va ts) (n : Int) (w : World) (t : Terms o l h w va ts) (hw : h ≤ w.heap.size) :
    Calls Try.prog 33 #[.agg #[va], .int .i64 n] w fun e w' => e = .returned (.bool (linW n ts)) ∧ Below w.heap.size w w' := by
  obtain ⟨a, ca, rfl, la, ba⟩ := t.shape
  cases hk : linOk ts
  · have HR := Lib.hid (linW_no (n := n) hk)
    go_enter Try.func33, Try.ntmps33
    go_wp2_with fail
    refine name_call fun w1 hw1 => ?_
    have b1 : Below w.heap.size w w1 := by rw [hw1]; (repeat (with_reducible first | exact bR _ _ | assumption | refine bD ?_ | refine bN ?_ _ | refine bA ?_ _ | refine bS ?_ _))
    have z1 := b1.size
    clear hw1
    refine (linOk_impl_no o l h _ ts w1 (t.keep b1 hw) (by omega) hk).mono ?_; rintro e w2 ⟨rfl, f2⟩
    have b2 := b1.trans (f2.mono (by omega))
    go_wp2_with fail
    go_ret
    exact ⟨ret_bool HR.out.symm, b2⟩
  have nl := linOk_length hk
  by_cases h0 : ts.length = 0
  · obtain rfl : ts = [] := List.eq_nil_of_length_eq_zero h0
    have HR := Lib.hid (linW_nil n)
    clear h0
    go_enter Try.func33, Try.ntmps33
    go_wp2_with fail
    refine name_call fun w1 hw1 => ?_
    have b1 : Below w.heap.size w w1 := by rw [hw1]; (repeat (with_reducible first | exact bR _ _ | assumption | refine bD ?_ | refine bN ?_ _ | refine bA ?_ _ | refine bS ?_ _))
    have z1 : w.heap.size < w1.heap.size := by rw [hw1]; simp
    have cA : w1.cell? ⟨w.heap.size, 0, none⟩ = some (.slice a 0 ca) := by rw [hw1]; first | (simp; done) | go_simp
    clear hw1
    refine (linOk_impl_yes o l h _ [] w1 (t.keep b1 hw) (by omega) hk).mono ?_; rintro e w2 ⟨rfl, f2⟩
    have b2 := b1.trans (f2.mono (by omega))
    have cA2 := cell_keep f2 cA
    have z2 := f2.size
    clear cA
    go_wp2_with fail
    go_ret
    exact ⟨ret_bool HR.out.symm, b2⟩
  · obtain ⟨b, off, x, y, rfl, l1', m1, c1, d1, e1, fx, fy⟩ := t.at (k := ts.length - 1) (by omega)
    have HR := Lib.hid (linW_last hk (n := n) e1)
    obtain ⟨j, hj⟩ : ∃ j : Nat, j = ts.length - 1 := ⟨_, rfl⟩
    rw [← hj] at c1
    have hb0 : ((ts.length : Int) == 0) = false := beq_eq_false_iff_ne.2 (by omega)
    have s1 : IntKind.i64.wrap ((ts.length : Int) - 1) = (j : Int) := by rw [IntWalk.i64_in _ (by omega)]; omega
    have s1' : (ts.length : Int) - 1 = (j : Int) := by omega
    have s2 : (j : Int) < (ts.length : Int) := by omega
    have s3 : j < ts.length := by omega
    have hbs : b < w.heap.size := World.block_lt_of_cell? w _ c1
    have nl1 : 1 ≤ ts.length := by omega
    clear hj e1 d1 h0
    go_enter Try.func33, Try.ntmps33
    go_wp2_with fail
    refine name_call fun w1 hw1 => ?_
    have b1 : Below w.heap.size w w1 := by rw [hw1]; (repeat (with_reducible first | exact bR _ _ | assumption | refine bD ?_ | refine bN ?_ _ | refine bA ?_ _ | refine bS ?_ _))
    have z1 : w.heap.size < w1.heap.size := by rw [hw1]; simp
    have cA : w1.cell? ⟨w.heap.size, 0, none⟩ = some (.slice (some ⟨b, off, none⟩) ts.length ca) := by rw [hw1]; first | (simp; done) | go_simp
    have cB := cell_keep b1 c1
    clear hw1
    refine (linOk_impl_yes o l h _ ts w1 (t.keep b1 hw) (by omega) hk).mono ?_; rintro e w2 ⟨rfl, f2⟩
    have b2 := b1.trans (f2.mono (by omega))
    have cA2 := cell_keep f2 cA
    have cB2 := cell_keep f2 cB
    have z2 := f2.size
    have hb2 : b < w2.heap.size := by omega
    clear cA cB c1
    go_wp2_with fail
    go_ret
    exact ⟨ret_bool HR.out.symm, b2⟩
theorem withinI_yes (o l h va ts) (n : Int) (w : World) (t : Terms o l h w va ts) (hw : h ≤ w.heap.size) (hk : linW n ts = true) :
    Calls Try.prog 33 #[.agg #[va], .int .i64 n] w fun e w' => e = .returned (.bool true) ∧ Below w.heap.size w w' := by
  have := withinI_any o l h va ts n w t hw
  rw [hk] at this; exact this
theorem withinI_no (o l h va ts) (n : Int) (w : World) (t : Terms o l h w va ts) (hw : h ≤ w.heap.size) (hk : linW n ts = false) :
    Calls Try.prog 33 #[.agg #[va], .int .i64 n] w fun e w' => e = .returned (.bool false) ∧ Below w.heap.size w w' := by
  have := withinI_any o l h va ts n w t hw
  rw [hk] at this; exact this

end Go.Proofs.Ytoeklalhbkdjnaa.L

/- Valid systems: the program's SysOk. -/
namespace Go.Proofs.Ytoeklalhbkdjnaa.L
open Go.RowKit Go.Proofs.Ytoeklalhbkdjnaa.S
set_option linter.unusedVariables false
set_option linter.unusedSimpArgs false

def varsN (s : SysC) : Int := 1 + s.ins + s.hints.length
def limB (s : SysC) : Bool := decide (0 ≤ s.ins ∧ s.ins ≤ 100 ∧ s.outs.length ≤ 40 ∧ varsN s ≤ 3000 ∧ s.cons.length ≤ 4000)
def hintsB : Int → List HintC → Bool
  | _, [] => true
  | n, h :: r => hintW n h && hintsB (n + 1) r
def outsB (n : Int) (ls : List (List T)) : Bool := ls.all (linW n)
def consB (n : Int) (cs : List ConC) : Bool := cs.all (conW n)
def sysOk (s : SysC) : Bool := limB s && (hintsB (1 + s.ins) s.hints && (outsB (varsN s) s.outs && consB (varsN s) s.cons))

theorem hintsB_step {n : Int} {hs : List HintC} {k : Nat} (hk : k < hs.length) (h : hintW (n + k) hs[k] = true) : hintsB (n + k) (hs.drop k) = hintsB (n + (k + 1 : Nat)) (hs.drop (k + 1)) := by
  rw [List.drop_eq_getElem_cons hk, hintsB, h, Bool.true_and, show n + (k : Int) + 1 = n + (k + 1 : Nat) from by omega]
theorem hintsB_stop {n : Int} {hs : List HintC} {k : Nat} (hk : k < hs.length) (h : hintW (n + k) hs[k] = false) : hintsB (n + k) (hs.drop k) = false := by
  rw [List.drop_eq_getElem_cons hk, hintsB, h, Bool.false_and]
theorem all_step {α : Type} {f : α → Bool} {xs : List α} {k : Nat} (hk : k < xs.length) (h : f xs[k] = true) : (xs.drop k).all f = (xs.drop (k + 1)).all f := by
  rw [List.drop_eq_getElem_cons hk, List.all_cons, h, Bool.true_and]
theorem all_stop {α : Type} {f : α → Bool} {xs : List α} {k : Nat} (hk : k < xs.length) (h : f xs[k] = false) : (xs.drop k).all f = false := by
  rw [List.drop_eq_getElem_cons hk, List.all_cons, h, Bool.false_and]
theorem sysOk_lim {s : SysC} (h : limB s = false) : sysOk s = false := by simp [sysOk, h]
theorem sysOk_hints {s : SysC} (h : hintsB (1 + s.ins) s.hints = false) : sysOk s = false := by simp [sysOk, h]
theorem sysOk_outs {s : SysC} (h : outsB (varsN s) s.outs = false) : sysOk s = false := by simp [sysOk, h]
theorem sysOk_cons {s : SysC} (h : consB (varsN s) s.cons = false) : sysOk s = false := by simp [sysOk, h]
theorem sysOk_yes {s : SysC} (h1 : limB s = true) (h2 : hintsB (1 + s.ins) s.hints = true) (h3 : outsB (varsN s) s.outs = true) (h4 : consB (varsN s) s.cons = true) : sysOk s = true := by simp [sysOk, h1, h2, h3, h4]
theorem limB_facts {s : SysC} (h : limB s = true) : 0 ≤ s.ins ∧ s.ins ≤ 100 ∧ s.outs.length ≤ 40 ∧ 1 + s.ins + s.hints.length ≤ 3000 ∧ s.cons.length ≤ 4000 := of_decide_eq_true h
theorem sysOk_limB {s : SysC} (h : sysOk s = true) : limB s = true := by
  cases hl : limB s
  · rw [sysOk_lim hl] at h; cases h
  · rfl

end Go.Proofs.Ytoeklalhbkdjnaa.L

/- Gates as functions on lists: what the model adds to a system, what the program's builder collects, and that they agree. -/
namespace Go.Proofs.Ytoeklalhbkdjnaa.L
open Go.RowKit Go.Proofs.Ytoeklalhbkdjnaa.S
set_option linter.unusedVariables false
set_option linter.unusedSimpArgs false

/-- The model's way: onto the system itself. -/
def sVar (s : SysC) : List T := [(varsN s, 1)]
def sHint (s : SysC) (h : HintC) : SysC := ⟨s.ins, s.outs, s.hints ++ [h], s.cons⟩
def sCon (s : SysC) (c : ConC) : SysC := ⟨s.ins, s.outs, s.hints, s.cons ++ [c]⟩
def mulS (s : SysC) (a b : List T) : SysC := sCon (sHint s ⟨0, a, b, 0⟩) ⟨a, b, sVar s⟩
def boolS (s : SysC) (a : List T) : SysC := sCon s ⟨a, mrg 2147483646 a (constOf 1), []⟩
def eqS (s : SysC) (a b : List T) : SysC := sCon s ⟨mrg 2147483646 a b, constOf 1, []⟩
def packF (f : Int → List T → List T → List T) : Nat → List T → List (List T) → List T
  | _, acc, [] => acc
  | i, acc, b :: r => packF f (i + 1) (f ((2 : Int) ^ i) acc b) r
def packS (l : List (List T)) : List T := packF mrg 0 [] l
def bitsK (s : SysC) (a : List T) : Nat → SysC × List (List T)
  | 0 => (s, [])
  | k + 1 => (boolS (sHint (bitsK s a k).1 ⟨1, a, [], k⟩) (sVar (bitsK s a k).1), (bitsK s a k).2 ++ [sVar (bitsK s a k).1])
def bitsS (s : SysC) (a : List T) (n : Nat) : SysC := eqS (bitsK s a n).1 (packS (bitsK s a n).2) a
def zeroZ (s : SysC) (a : List T) : List T := mrg 2147483646 (constOf 1) (sVar (sHint s ⟨2, a, [], 0⟩))
def zeroS (s : SysC) (a : List T) : SysC := sCon (mulS (sHint s ⟨2, a, [], 0⟩) a (sVar s)) ⟨a, zeroZ s a, []⟩
def lessD (a b : List T) (n : Nat) : List T := mrg 1 (mrg 2147483646 a b) (constOf ((2 : Int) ^ n))
def lessS (s : SysC) (a b : List T) (n : Nat) : SysC := bitsS s (lessD a b n) (n + 1)
def lessZ (s : SysC) (a b : List T) (n : Nat) : List T := mrg 2147483646 (constOf 1) ((bitsK s (lessD a b n) (n + 1)).2.getD n [])

/-- The program's way: a list of hints, one of constraints, and how many there would be. -/
structure Bd where
  hs : List HintC
  cs : List ConC
  n : Nat
def bVar (s : SysC) (b : Bd) : List T := varOf (varsN s + b.hs.length)
def bHint (s : SysC) (b : Bd) (h : HintC) : Bd := ⟨if varsN s + b.hs.length < 3000 then b.hs ++ [h] else b.hs, b.cs, b.n + 1⟩
def bCon (s : SysC) (b : Bd) (c : ConC) : Bd := ⟨b.hs, if s.cons.length + b.cs.length < 4000 then b.cs ++ [c] else b.cs, b.n + 1⟩
def mulB (s : SysC) (b : Bd) (x y : List T) : Bd := bCon s (bHint s b ⟨0, x, y, 0⟩) ⟨x, y, bVar s b⟩
def boolB (s : SysC) (b : Bd) (x : List T) : Bd := bCon s b ⟨x, lcomb 2147483646 x (constOf 1), []⟩
def eqB (s : SysC) (b : Bd) (x y : List T) : Bd := bCon s b ⟨lcomb 2147483646 x y, constOf 1, []⟩
def bitsBK (s : SysC) (b : Bd) (x : List T) : Nat → Bd × List (List T)
  | 0 => (b, [])
  | k + 1 => (boolB s (bHint s (bitsBK s b x k).1 ⟨1, x, [], k⟩) (bVar s (bitsBK s b x k).1), (bitsBK s b x k).2 ++ [bVar s (bitsBK s b x k).1])
/-- What Pack answers. -/
def packOk (l : List (List T)) : Bool := decide (l.length ≤ 30) && l.all linOk
def packL (l : List (List T)) : List T := if packOk l = true then packS l else []
def bitsB (s : SysC) (b : Bd) (x : List T) (n : Nat) : Bd := eqB s (bitsBK s b x n).1 (packL (bitsBK s b x n).2) x
def zeroBZ (s : SysC) (b : Bd) (x : List T) : List T := lcomb 2147483646 (constOf 1) (bVar s (bHint s b ⟨2, x, [], 0⟩))
def zeroB (s : SysC) (b : Bd) (x : List T) : Bd := bCon s (mulB s (bHint s b ⟨2, x, [], 0⟩) x (bVar s b)) ⟨x, zeroBZ s b x, []⟩
def lessBD (x y : List T) (n : Nat) : List T := lcomb 1 (lcomb 2147483646 x y) (constOf ((2 : Int) ^ n))
def lessB (s : SysC) (b : Bd) (x y : List T) (n : Nat) : Bd := bitsB s b (lessBD x y n) (n + 1)
def lessBZ (s : SysC) (b : Bd) (x y : List T) (n : Nat) : List T := lcomb 2147483646 (constOf 1) ((bitsBK s b (lessBD x y n) (n + 1)).2.getD n [])
/-- The whole: the system, and whether there was room. -/
def bOk (b : Bd) : Bool := decide (b.n = b.hs.length + b.cs.length)
def bSys (s : SysC) (b : Bd) : SysC := if bOk b = true then ⟨s.ins, s.outs, s.hints ++ b.hs, s.cons ++ b.cs⟩ else s

/-- There is room for t. -/
def Room (t : SysC) : Prop := varsN t ≤ 3000 ∧ t.cons.length ≤ 4000
/-- The builder b over s stands where the model stands with t. -/
def Sim (s : SysC) (b : Bd) (t : SysC) : Prop :=
  ∃ (H : List HintC) (C : List ConC), t = ⟨s.ins, s.outs, s.hints ++ H, s.cons ++ C⟩ ∧ b.n = H.length + C.length ∧ (b.hs.length : Int) = min (H.length : Int) (3000 - varsN s) ∧ b.cs.length = min C.length (4000 - s.cons.length) ∧ (Room t → b.hs = H ∧ b.cs = C ∧ sysOk t = true)

theorem linW_mono {n m : Int} {ts : List T} (h : linW n ts = true) (hnm : n ≤ m) : linW m ts = true := by
  unfold linW at h ⊢
  simp only [Bool.and_eq_true, decide_eq_true_eq] at h ⊢
  exact ⟨h.1, fun t ht => by have := h.2 t ht; omega⟩
theorem conW_mono {n m : Int} {c : ConC} (h : conW n c = true) (hnm : n ≤ m) : conW m c = true := by
  unfold conW at h ⊢
  simp only [Bool.and_eq_true] at h ⊢
  exact ⟨linW_mono h.1 hnm, linW_mono h.2.1 hnm, linW_mono h.2.2 hnm⟩
theorem hintsB_snoc : ∀ (hs : List HintC) (n : Int) (x : HintC), hintsB n (hs ++ [x]) = (hintsB n hs && hintW (n + hs.length) x)
  | [], n, x => by simp [hintsB]
  | y :: r, n, x => by
    rw [List.cons_append, hintsB, hintsB, hintsB_snoc r (n + 1) x, Bool.and_assoc, List.length_cons, show n + 1 + (r.length : Int) = n + ((r.length + 1 : Nat) : Int) from by omega]
theorem varsN_hint (t : SysC) (h : HintC) : varsN (sHint t h) = varsN t + 1 := by unfold varsN sHint; simp; omega
theorem varsN_con (t : SysC) (c : ConC) : varsN (sCon t c) = varsN t := rfl
theorem Room.hint {t : SysC} {h : HintC} (r : Room (sHint t h)) : Room t := ⟨by have := r.1; rw [varsN_hint] at this; omega, r.2⟩
theorem Room.con {t : SysC} {c : ConC} (r : Room (sCon t c)) : Room t := ⟨r.1, by have := r.2; unfold sCon at this; simp at this; omega⟩
theorem sysOk_hint {t : SysC} {h : HintC} (ht : sysOk t = true) (hr : varsN t + 1 ≤ 3000) (hh : hintW (varsN t) h = true) : sysOk (sHint t h) = true := by
  have hl := limB_facts (sysOk_limB ht)
  unfold sysOk at ht
  simp only [Bool.and_eq_true] at ht
  obtain ⟨h1, h2, h3, h4⟩ := ht
  refine sysOk_yes ?_ ?_ ?_ ?_
  · unfold limB
    rw [varsN_hint]
    exact decide_eq_true ⟨hl.1, hl.2.1, hl.2.2.1, hr, hl.2.2.2.2⟩
  · show hintsB (1 + t.ins) (t.hints ++ [h]) = true
    rw [hintsB_snoc, h2, Bool.true_and]
    exact hh
  · rw [varsN_hint]
    unfold outsB at h3 ⊢
    rw [List.all_eq_true] at h3 ⊢
    exact fun x hx => linW_mono (h3 x hx) (by omega)
  · rw [varsN_hint]
    unfold consB at h4 ⊢
    rw [List.all_eq_true] at h4 ⊢
    exact fun x hx => conW_mono (h4 x hx) (by omega)
theorem sysOk_con {t : SysC} {c : ConC} (ht : sysOk t = true) (hr : t.cons.length + 1 ≤ 4000) (hc : conW (varsN t) c = true) : sysOk (sCon t c) = true := by
  have hl := limB_facts (sysOk_limB ht)
  unfold sysOk at ht
  simp only [Bool.and_eq_true] at ht
  obtain ⟨h1, h2, h3, h4⟩ := ht
  refine sysOk_yes ?_ h2 h3 ?_
  · unfold limB
    rw [varsN_con]
    refine decide_eq_true ⟨hl.1, hl.2.1, hl.2.2.1, hl.2.2.2.1, ?_⟩
    show (t.cons ++ [c]).length ≤ 4000
    simp; omega
  · rw [varsN_con]
    unfold consB at h4 ⊢
    show (t.cons ++ [c]).all _ = true
    rw [List.all_append, h4]
    simp [hc]

theorem Sim.start {s : SysC} (hs : sysOk s = true) : Sim s ⟨[], [], 0⟩ s := by
  have hl := limB_facts (sysOk_limB hs)
  refine ⟨[], [], by simp, rfl, ?_, by simp, fun _ => ⟨rfl, rfl, hs⟩⟩
  unfold varsN
  simp only [List.length_nil]
  omega
theorem Sim.vars {s : SysC} {b : Bd} {t : SysC} {x : HintC} (h : Sim s b t) (r : Room (sHint t x)) : bVar s b = sVar t := by
  obtain ⟨H, C, rfl, h1, h2, h3, h4⟩ := h
  obtain ⟨e1, e2, e3⟩ := h4 r.hint
  have hl := limB_facts (sysOk_limB e3)
  have q := r.1
  rw [varsN_hint] at q
  have e : varsN s + (b.hs.length : Int) = varsN ⟨s.ins, s.outs, s.hints ++ H, s.cons ++ C⟩ := by rw [e1]; unfold varsN; simp; omega
  unfold bVar sVar
  rw [e]
  unfold varOf
  rw [if_pos ⟨by unfold varsN; simp only; have := hl.1; simp only at this; omega, by omega⟩]
theorem Sim.hint {s : SysC} {b : Bd} {t : SysC} {h h' : HintC} (hs : Sim s b t) (hh : Room t → h' = h ∧ hintW (varsN t) h = true) : Sim s (bHint s b h') (sHint t h) := by
  obtain ⟨H, C, rfl, h1, h2, h3, h4⟩ := hs
  refine ⟨H ++ [h], C, ?_, ?_, ?_, h3, fun r => ?_⟩
  · unfold sHint; simp
  · unfold bHint; simp only [List.length_append, List.length_cons, List.length_nil]; omega
  · unfold bHint
    simp only
    split
    · simp only [List.length_append, List.length_cons, List.length_nil]; omega
    · simp only [List.length_append, List.length_cons, List.length_nil]; omega
  · obtain ⟨e1, e2, e3⟩ := h4 r.hint
    obtain ⟨rfl, hw⟩ := hh r.hint
    have q := r.1
    rw [varsN_hint] at q
    have e : varsN s + (b.hs.length : Int) = varsN ⟨s.ins, s.outs, s.hints ++ H, s.cons ++ C⟩ := by rw [e1]; unfold varsN; simp; omega
    refine ⟨?_, e2, sysOk_hint e3 q hw⟩
    unfold bHint
    simp only
    rw [if_pos (by omega), e1]
theorem Sim.con {s : SysC} {b : Bd} {t : SysC} {c c' : ConC} (hs : Sim s b t) (hc : Room t → c' = c ∧ conW (varsN t) c = true) : Sim s (bCon s b c') (sCon t c) := by
  obtain ⟨H, C, rfl, h1, h2, h3, h4⟩ := hs
  refine ⟨H, C ++ [c], ?_, ?_, h2, ?_, fun r => ?_⟩
  · unfold sCon; simp
  · unfold bCon; simp only [List.length_append, List.length_cons, List.length_nil]; omega
  · unfold bCon
    simp only
    split
    · simp only [List.length_append, List.length_cons, List.length_nil]; omega
    · simp only [List.length_append, List.length_cons, List.length_nil]; omega
  · obtain ⟨e1, e2, e3⟩ := h4 r.con
    obtain ⟨rfl, hw⟩ := hc r.con
    have q := r.2
    unfold sCon at q
    simp only [List.length_append, List.length_cons, List.length_nil] at q
    refine ⟨e1, ?_, sysOk_con e3 (by simp only [List.length_append]; omega) hw⟩
    unfold bCon
    simp only
    rw [e2, if_pos (by omega)]
/-- At the end both say the same. -/
theorem Sim.done {s : SysC} {b : Bd} {t : SysC} (hs : Sim s b t) (h0 : sysOk s = true) : bOk b = sysOk t ∧ (sysOk t = true → bSys s b = t ∧ Room t) ∧ (sysOk t = false → bSys s b = s) := by
  have hl := limB_facts (sysOk_limB h0)
  obtain ⟨H, C, rfl, h1, h2, h3, h4⟩ := hs
  have key : bOk b = sysOk ⟨s.ins, s.outs, s.hints ++ H, s.cons ++ C⟩ := by
    cases hk : sysOk ⟨s.ins, s.outs, s.hints ++ H, s.cons ++ C⟩
    · unfold bOk
      rw [decide_eq_false_iff_not]
      intro e
      have r : Room ⟨s.ins, s.outs, s.hints ++ H, s.cons ++ C⟩ := by
        unfold varsN at h2
        refine ⟨?_, ?_⟩
        · unfold varsN; simp only [List.length_append]; omega
        · simp only [List.length_append]; omega
      rw [(h4 r).2.2] at hk
      cases hk
    · have q := limB_facts (sysOk_limB hk)
      obtain ⟨e1, e2, -⟩ := h4 ⟨q.2.2.2.1, q.2.2.2.2⟩
      unfold bOk
      rw [e1, e2, h1]
      simp
  refine ⟨key, fun hk => ?_, fun hk => ?_⟩
  · have q := limB_facts (sysOk_limB hk)
    obtain ⟨e1, e2, -⟩ := h4 ⟨q.2.2.2.1, q.2.2.2.2⟩
    unfold bSys
    rw [key, hk, if_pos rfl, e1, e2]
    exact ⟨rfl, q.2.2.2.1, q.2.2.2.2⟩
  · unfold bSys
    rw [key, hk, if_neg (by simp)]
end Go.Proofs.Ytoeklalhbkdjnaa.L
