/- Systems as bytes: the program's function. -/
import Derived.Test.YtghjcedhoeoiiaaBytes3
import Derived.Test.YtghjcedhoeoiiaaB9
namespace Go.Proofs.Ytghjcedhoeoiiaa.L
open Go.RowKit Go.Proofs.Ytghjcedhoeoiiaa.S
set_option linter.unusedVariables false
set_option linter.unusedSimpArgs false

theorem row_base {w : World} {base base' : Nat} {e : TypeId} {size n : Nat} {v : Value} {xs : List Value} (h : w.ownsRow base e size v n xs) (hb : base' ≤ base) : w.ownsRow base' e size v n xs :=
  ⟨h.1, h.2.imp id (fun ⟨g, cap, cur, e1, e2, e3⟩ => ⟨g, cap, cur, e1, by omega, e3⟩)⟩
theorem flat_step {α : Type} {f : α → List Int} {xs : List α} {k : Nat} (hk : k < xs.length) : (xs.take (k + 1)).flatMap f = (xs.take k).flatMap f ++ f xs[k] := by
  rw [take_step (List.getElem?_eq_getElem hk), List.flatMap_append]; simp
theorem flat_le {α : Type} {f : α → List Int} {M : Nat} : ∀ {xs : List α} (h : ∀ x ∈ xs, (f x).length ≤ M) (k : Nat), ((xs.take k).flatMap f).length ≤ xs.length * M
  | [], _, k => by simp
  | x :: r, h, 0 => by simp
  | x :: r, h, k + 1 => by
    have := flat_le (fun y hy => h y (List.mem_cons_of_mem _ hy)) k (xs := r)
    have h1 := h x (List.mem_cons_self)
    rw [List.take_succ_cons, List.flatMap_cons, List.length_append, List.length_cons, Nat.add_mul]; omega
def headBytes (s : SysC) : List Int := num4 s.ins ++ num4 (s.outs.length : Int) ++ num4 (s.hints.length : Int) ++ num4 (s.cons.length : Int)
def sysBytes (s : SysC) : List Int := headBytes s ++ s.outs.flatMap linBytes ++ s.hints.flatMap hintBytes ++ s.cons.flatMap conBytes
def sysB (s : SysC) : List Int := if sysOk s = true then sysBytes s else []
theorem linW_four {n : Int} {ts : List T} (h : linW n ts = true) : Four ts ∧ ts.length ≤ 3000 := by
  unfold linW at h
  rw [Bool.and_eq_true] at h
  refine ⟨fun t ht => ?_, linOk_length h.1⟩
  obtain ⟨i, hi⟩ := List.mem_iff_getElem?.1 ht
  have := linOk_at h.1 hi
  omega
theorem hintsB_in : ∀ {hs : List HintC} {n : Int}, hintsB n hs = true → ∀ x ∈ hs, ∃ m, hintW m x = true
  | [], _, _, x, hx => by cases hx
  | y :: r, n, h, x, hx => by
    rw [hintsB, Bool.and_eq_true] at h
    rcases List.mem_cons.1 hx with rfl | hx
    · exact ⟨n, h.1⟩
    · exact hintsB_in h.2 x hx
structure HintFit (x : HintC) : Prop where
  fa : Four x.a
  fb : Four x.b
  na : x.a.length ≤ 3000
  nb : x.b.length ≤ 3000
  k0 : 0 ≤ x.kind
  k1 : x.kind ≤ 255
  j0 : 0 ≤ x.k
  j1 : x.k ≤ 4294967295
theorem hintW_fit {n : Int} {x : HintC} (h : hintW n x = true) : HintFit x := by
  unfold hintW at h
  rw [Bool.and_eq_true, Bool.and_eq_true] at h
  obtain ⟨f1, n1⟩ := linW_four h.1
  obtain ⟨f2, n2⟩ := linW_four h.2.1
  have hk := of_decide_eq_true h.2.2
  exact ⟨f1, f2, n1, n2, by omega, by omega, by omega, by omega⟩
theorem sysOk_hints_fit {s : SysC} (h : sysOk s = true) : ∀ x ∈ s.hints, HintFit x := by
  have h2 : hintsB (1 + s.ins) s.hints = true := by
    cases hc : hintsB (1 + s.ins) s.hints
    · rw [sysOk_hints hc] at h; cases h
    · rfl
  intro x hx
  obtain ⟨m, hm⟩ := hintsB_in h2 x hx
  exact hintW_fit hm
theorem hintBytes_le {x : HintC} (h : HintFit x) : (hintBytes x).length ≤ 48100 := by
  have := h.na; have := h.nb
  simp only [hintBytes, List.length_append, linBytes_length, num4_length, List.length_singleton]; omega
theorem conBytes_le {n : Int} {c : ConC} (h : conW n c = true) : (conBytes c).length ≤ 72100 := by
  obtain ⟨a, b, d⟩ := conW_parts h
  have := (linW_four a).2; have := (linW_four b).2; have := (linW_four d).2
  simp only [conBytes, List.length_append, linBytes_length]; omega
theorem linBytes_le {n : Int} {ts : List T} (h : linW n ts = true) : (linBytes ts).length ≤ 24100 := by
  have := (linW_four h).2
  rw [linBytes_length]; omega

end Go.Proofs.Ytghjcedhoeoiiaa.L
