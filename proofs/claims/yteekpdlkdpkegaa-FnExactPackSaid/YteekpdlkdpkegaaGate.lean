/- Gates as functions on lists: what the model adds to a system, what the program's builder collects, and that they agree. -/
import Derived.Test.YteekpdlkdpkegaaSysOk
import Derived.Test.YteekpdlkdpkegaaLinAdd
import Derived.Test.YteekpdlkdpkegaaConst
namespace Go.Proofs.Yteekpdlkdpkegaa.L
open Go.RowKit Go.Proofs.Yteekpdlkdpkegaa.S
set_option linter.unusedVariables false
set_option linter.unusedSimpArgs false

/-- The model's way: onto the system itself. -/
def sVar (s : SysC) : List T := [(varsN s, 1)]
def sHint (s : SysC) (h : HintC) : SysC := ⟨s.ins, s.outs, s.hints ++ [h], s.cons⟩
def sCon (s : SysC) (c : ConC) : SysC := ⟨s.ins, s.outs, s.hints, s.cons ++ [c]⟩
def mulS (s : SysC) (a b : List T) : SysC := sCon (sHint s ⟨0, a, b, 0⟩) ⟨a, b, sVar s⟩
def boolS (s : SysC) (a : List T) : SysC := sCon s ⟨a, mrg 2147483646 a (constOf 1), []⟩
def eqS (s : SysC) (a b : List T) : SysC := sCon s ⟨mrg 2147483646 a b, constOf 1, []⟩
def packF (f : Int → List T → List T → List T) : Nat → List T → List (List T) → List T
  | _, acc, [] => acc
  | i, acc, b :: r => packF f (i + 1) (f ((2 : Int) ^ i) acc b) r
def packS (l : List (List T)) : List T := packF mrg 0 [] l
def bitsK (s : SysC) (a : List T) : Nat → SysC × List (List T)
  | 0 => (s, [])
  | k + 1 => (boolS (sHint (bitsK s a k).1 ⟨1, a, [], k⟩) (sVar (bitsK s a k).1), (bitsK s a k).2 ++ [sVar (bitsK s a k).1])
def bitsS (s : SysC) (a : List T) (n : Nat) : SysC := eqS (bitsK s a n).1 (packS (bitsK s a n).2) a
def zeroZ (s : SysC) (a : List T) : List T := mrg 2147483646 (constOf 1) (sVar (sHint s ⟨2, a, [], 0⟩))
def zeroS (s : SysC) (a : List T) : SysC := sCon (mulS (sHint s ⟨2, a, [], 0⟩) a (sVar s)) ⟨a, zeroZ s a, []⟩
def lessD (a b : List T) (n : Nat) : List T := mrg 1 (mrg 2147483646 a b) (constOf ((2 : Int) ^ n))
def lessS (s : SysC) (a b : List T) (n : Nat) : SysC := bitsS s (lessD a b n) (n + 1)
def lessZ (s : SysC) (a b : List T) (n : Nat) : List T := mrg 2147483646 (constOf 1) ((bitsK s (lessD a b n) (n + 1)).2.getD n [])

/-- The program's way: a list of hints, one of constraints, and how many there would be. -/
structure Bd where
  hs : List HintC
  cs : List ConC
  n : Nat
def bVar (s : SysC) (b : Bd) : List T := varOf (varsN s + b.hs.length)
def bHint (s : SysC) (b : Bd) (h : HintC) : Bd := ⟨if varsN s + b.hs.length < 3000 then b.hs ++ [h] else b.hs, b.cs, b.n + 1⟩
def bCon (s : SysC) (b : Bd) (c : ConC) : Bd := ⟨b.hs, if s.cons.length + b.cs.length < 4000 then b.cs ++ [c] else b.cs, b.n + 1⟩
def mulB (s : SysC) (b : Bd) (x y : List T) : Bd := bCon s (bHint s b ⟨0, x, y, 0⟩) ⟨x, y, bVar s b⟩
def boolB (s : SysC) (b : Bd) (x : List T) : Bd := bCon s b ⟨x, lcomb 2147483646 x (constOf 1), []⟩
def eqB (s : SysC) (b : Bd) (x y : List T) : Bd := bCon s b ⟨lcomb 2147483646 x y, constOf 1, []⟩
def bitsBK (s : SysC) (b : Bd) (x : List T) : Nat → Bd × List (List T)
  | 0 => (b, [])
  | k + 1 => (boolB s (bHint s (bitsBK s b x k).1 ⟨1, x, [], k⟩) (bVar s (bitsBK s b x k).1), (bitsBK s b x k).2 ++ [bVar s (bitsBK s b x k).1])
/-- What Pack answers. -/
def packOk (l : List (List T)) : Bool := decide (l.length ≤ 30) && l.all linOk
def packL (l : List (List T)) : List T := if packOk l = true then packS l else []
def bitsB (s : SysC) (b : Bd) (x : List T) (n : Nat) : Bd := eqB s (bitsBK s b x n).1 (packL (bitsBK s b x n).2) x
def zeroBZ (s : SysC) (b : Bd) (x : List T) : List T := lcomb 2147483646 (constOf 1) (bVar s (bHint s b ⟨2, x, [], 0⟩))
def zeroB (s : SysC) (b : Bd) (x : List T) : Bd := bCon s (mulB s (bHint s b ⟨2, x, [], 0⟩) x (bVar s b)) ⟨x, zeroBZ s b x, []⟩
def lessBD (x y : List T) (n : Nat) : List T := lcomb 1 (lcomb 2147483646 x y) (constOf ((2 : Int) ^ n))
def lessB (s : SysC) (b : Bd) (x y : List T) (n : Nat) : Bd := bitsB s b (lessBD x y n) (n + 1)
def lessBZ (s : SysC) (b : Bd) (x y : List T) (n : Nat) : List T := lcomb 2147483646 (constOf 1) ((bitsBK s b (lessBD x y n) (n + 1)).2.getD n [])
/-- The whole: the system, and whether there was room. -/
def bOk (b : Bd) : Bool := decide (b.n = b.hs.length + b.cs.length)
def bSys (s : SysC) (b : Bd) : SysC := if bOk b = true then ⟨s.ins, s.outs, s.hints ++ b.hs, s.cons ++ b.cs⟩ else s

/-- There is room for t. -/
def Room (t : SysC) : Prop := varsN t ≤ 3000 ∧ t.cons.length ≤ 4000
/-- The builder b over s stands where the model stands with t. -/
def Sim (s : SysC) (b : Bd) (t : SysC) : Prop :=
  ∃ (H : List HintC) (C : List ConC), t = ⟨s.ins, s.outs, s.hints ++ H, s.cons ++ C⟩ ∧ b.n = H.length + C.length ∧ (b.hs.length : Int) = min (H.length : Int) (3000 - varsN s) ∧ b.cs.length = min C.length (4000 - s.cons.length) ∧ (Room t → b.hs = H ∧ b.cs = C ∧ sysOk t = true)

theorem linW_mono {n m : Int} {ts : List T} (h : linW n ts = true) (hnm : n ≤ m) : linW m ts = true := by
  unfold linW at h ⊢
  simp only [Bool.and_eq_true, decide_eq_true_eq] at h ⊢
  exact ⟨h.1, fun t ht => by have := h.2 t ht; omega⟩
theorem conW_mono {n m : Int} {c : ConC} (h : conW n c = true) (hnm : n ≤ m) : conW m c = true := by
  unfold conW at h ⊢
  simp only [Bool.and_eq_true] at h ⊢
  exact ⟨linW_mono h.1 hnm, linW_mono h.2.1 hnm, linW_mono h.2.2 hnm⟩
theorem hintsB_snoc : ∀ (hs : List HintC) (n : Int) (x : HintC), hintsB n (hs ++ [x]) = (hintsB n hs && hintW (n + hs.length) x)
  | [], n, x => by simp [hintsB]
  | y :: r, n, x => by
    rw [List.cons_append, hintsB, hintsB, hintsB_snoc r (n + 1) x, Bool.and_assoc, List.length_cons, show n + 1 + (r.length : Int) = n + ((r.length + 1 : Nat) : Int) from by omega]
theorem varsN_hint (t : SysC) (h : HintC) : varsN (sHint t h) = varsN t + 1 := by unfold varsN sHint; simp; omega
theorem varsN_con (t : SysC) (c : ConC) : varsN (sCon t c) = varsN t := rfl
theorem Room.hint {t : SysC} {h : HintC} (r : Room (sHint t h)) : Room t := ⟨by have := r.1; rw [varsN_hint] at this; omega, r.2⟩
theorem Room.con {t : SysC} {c : ConC} (r : Room (sCon t c)) : Room t := ⟨r.1, by have := r.2; unfold sCon at this; simp at this; omega⟩
theorem sysOk_hint {t : SysC} {h : HintC} (ht : sysOk t = true) (hr : varsN t + 1 ≤ 3000) (hh : hintW (varsN t) h = true) : sysOk (sHint t h) = true := by
  have hl := limB_facts (sysOk_limB ht)
  unfold sysOk at ht
  simp only [Bool.and_eq_true] at ht
  obtain ⟨h1, h2, h3, h4⟩ := ht
  refine sysOk_yes ?_ ?_ ?_ ?_
  · unfold limB
    rw [varsN_hint]
    exact decide_eq_true ⟨hl.1, hl.2.1, hl.2.2.1, hr, hl.2.2.2.2⟩
  · show hintsB (1 + t.ins) (t.hints ++ [h]) = true
    rw [hintsB_snoc, h2, Bool.true_and]
    exact hh
  · rw [varsN_hint]
    unfold outsB at h3 ⊢
    rw [List.all_eq_true] at h3 ⊢
    exact fun x hx => linW_mono (h3 x hx) (by omega)
  · rw [varsN_hint]
    unfold consB at h4 ⊢
    rw [List.all_eq_true] at h4 ⊢
    exact fun x hx => conW_mono (h4 x hx) (by omega)
theorem sysOk_con {t : SysC} {c : ConC} (ht : sysOk t = true) (hr : t.cons.length + 1 ≤ 4000) (hc : conW (varsN t) c = true) : sysOk (sCon t c) = true := by
  have hl := limB_facts (sysOk_limB ht)
  unfold sysOk at ht
  simp only [Bool.and_eq_true] at ht
  obtain ⟨h1, h2, h3, h4⟩ := ht
  refine sysOk_yes ?_ h2 h3 ?_
  · unfold limB
    rw [varsN_con]
    refine decide_eq_true ⟨hl.1, hl.2.1, hl.2.2.1, hl.2.2.2.1, ?_⟩
    show (t.cons ++ [c]).length ≤ 4000
    simp; omega
  · rw [varsN_con]
    unfold consB at h4 ⊢
    show (t.cons ++ [c]).all _ = true
    rw [List.all_append, h4]
    simp [hc]

theorem Sim.start {s : SysC} (hs : sysOk s = true) : Sim s ⟨[], [], 0⟩ s := by
  have hl := limB_facts (sysOk_limB hs)
  refine ⟨[], [], by simp, rfl, ?_, by simp, fun _ => ⟨rfl, rfl, hs⟩⟩
  unfold varsN
  simp only [List.length_nil]
  omega
theorem Sim.vars {s : SysC} {b : Bd} {t : SysC} {x : HintC} (h : Sim s b t) (r : Room (sHint t x)) : bVar s b = sVar t := by
  obtain ⟨H, C, rfl, h1, h2, h3, h4⟩ := h
  obtain ⟨e1, e2, e3⟩ := h4 r.hint
  have hl := limB_facts (sysOk_limB e3)
  have q := r.1
  rw [varsN_hint] at q
  have e : varsN s + (b.hs.length : Int) = varsN ⟨s.ins, s.outs, s.hints ++ H, s.cons ++ C⟩ := by rw [e1]; unfold varsN; simp; omega
  unfold bVar sVar
  rw [e]
  unfold varOf
  rw [if_pos ⟨by unfold varsN; simp only; have := hl.1; simp only at this; omega, by omega⟩]
theorem Sim.hint {s : SysC} {b : Bd} {t : SysC} {h h' : HintC} (hs : Sim s b t) (hh : Room t → h' = h ∧ hintW (varsN t) h = true) : Sim s (bHint s b h') (sHint t h) := by
  obtain ⟨H, C, rfl, h1, h2, h3, h4⟩ := hs
  refine ⟨H ++ [h], C, ?_, ?_, ?_, h3, fun r => ?_⟩
  · unfold sHint; simp
  · unfold bHint; simp only [List.length_append, List.length_cons, List.length_nil]; omega
  · unfold bHint
    simp only
    split
    · simp only [List.length_append, List.length_cons, List.length_nil]; omega
    · simp only [List.length_append, List.length_cons, List.length_nil]; omega
  · obtain ⟨e1, e2, e3⟩ := h4 r.hint
    obtain ⟨rfl, hw⟩ := hh r.hint
    have q := r.1
    rw [varsN_hint] at q
    have e : varsN s + (b.hs.length : Int) = varsN ⟨s.ins, s.outs, s.hints ++ H, s.cons ++ C⟩ := by rw [e1]; unfold varsN; simp; omega
    refine ⟨?_, e2, sysOk_hint e3 q hw⟩
    unfold bHint
    simp only
    rw [if_pos (by omega), e1]
theorem Sim.con {s : SysC} {b : Bd} {t : SysC} {c c' : ConC} (hs : Sim s b t) (hc : Room t → c' = c ∧ conW (varsN t) c = true) : Sim s (bCon s b c') (sCon t c) := by
  obtain ⟨H, C, rfl, h1, h2, h3, h4⟩ := hs
  refine ⟨H, C ++ [c], ?_, ?_, h2, ?_, fun r => ?_⟩
  · unfold sCon; simp
  · unfold bCon; simp only [List.length_append, List.length_cons, List.length_nil]; omega
  · unfold bCon
    simp only
    split
    · simp only [List.length_append, List.length_cons, List.length_nil]; omega
    · simp only [List.length_append, List.length_cons, List.length_nil]; omega
  · obtain ⟨e1, e2, e3⟩ := h4 r.con
    obtain ⟨rfl, hw⟩ := hc r.con
    have q := r.2
    unfold sCon at q
    simp only [List.length_append, List.length_cons, List.length_nil] at q
    refine ⟨e1, ?_, sysOk_con e3 (by simp only [List.length_append]; omega) hw⟩
    unfold bCon
    simp only
    rw [e2, if_pos (by omega)]
/-- At the end both say the same. -/
theorem Sim.done {s : SysC} {b : Bd} {t : SysC} (hs : Sim s b t) (h0 : sysOk s = true) : bOk b = sysOk t ∧ (sysOk t = true → bSys s b = t ∧ Room t) ∧ (sysOk t = false → bSys s b = s) := by
  have hl := limB_facts (sysOk_limB h0)
  obtain ⟨H, C, rfl, h1, h2, h3, h4⟩ := hs
  have key : bOk b = sysOk ⟨s.ins, s.outs, s.hints ++ H, s.cons ++ C⟩ := by
    cases hk : sysOk ⟨s.ins, s.outs, s.hints ++ H, s.cons ++ C⟩
    · unfold bOk
      rw [decide_eq_false_iff_not]
      intro e
      have r : Room ⟨s.ins, s.outs, s.hints ++ H, s.cons ++ C⟩ := by
        unfold varsN at h2
        refine ⟨?_, ?_⟩
        · unfold varsN; simp only [List.length_append]; omega
        · simp only [List.length_append]; omega
      rw [(h4 r).2.2] at hk
      cases hk
    · have q := limB_facts (sysOk_limB hk)
      obtain ⟨e1, e2, -⟩ := h4 ⟨q.2.2.2.1, q.2.2.2.2⟩
      unfold bOk
      rw [e1, e2, h1]
      simp
  refine ⟨key, fun hk => ?_, fun hk => ?_⟩
  · have q := limB_facts (sysOk_limB hk)
    obtain ⟨e1, e2, -⟩ := h4 ⟨q.2.2.2.1, q.2.2.2.2⟩
    unfold bSys
    rw [key, hk, if_pos rfl, e1, e2]
    exact ⟨rfl, q.2.2.2.1, q.2.2.2.2⟩
  · unfold bSys
    rw [key, hk, if_neg (by simp)]
end Go.Proofs.Yteekpdlkdpkegaa.L
