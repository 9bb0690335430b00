/- Hints, constraints, systems: what they read as. -/
import Derived.Test.YteekpdlkdpkegaaShape
namespace Go.Proofs.Yteekpdlkdpkegaa.L
open Go.RowKit Go.Proofs.Yteekpdlkdpkegaa.S
set_option linter.unusedVariables false
set_option linter.unusedSimpArgs false

structure HintC where
  kind : Int
  a : List T
  b : List T
  k : Int
structure ConC where
  a : List T
  b : List T
  c : List T
structure SysC where
  ins : Int
  outs : List (List T)
  hints : List HintC
  cons : List ConC

def hintSh : Shape HintC where
  wd := 4
  rep o l h w cs x := ∃ va vb l1 h1 l2 h2, cs = [.int .i64 x.kind, va, vb, .int .i64 x.k] ∧ Fits x.kind ∧ Fits x.k ∧ l ≤ l1 ∧ h1 ≤ h ∧ l ≤ l2 ∧ h2 ≤ h ∧ (o = true → h1 ≤ l2 ∨ h2 ≤ l1) ∧ Terms o l1 h1 w va x.a ∧ Terms o l2 h2 w vb x.b
  len h := by obtain ⟨va, vb, l1, h1, l2, h2, rfl, _⟩ := h; rfl
  agree h s := by
    obtain ⟨va, vb, l1, h1, l2, h2, e, f0, f3, p1, p2, p3, p4, d, ta, tb⟩ := h
    exact ⟨va, vb, l1, h1, l2, h2, e, f0, f3, p1, p2, p3, p4, d, ta.agree (s.sub p1 p2), tb.agree (s.sub p3 p4)⟩
  mono h a b := by
    obtain ⟨va, vb, l1, h1, l2, h2, e, f0, f3, p1, p2, p3, p4, d, ta, tb⟩ := h
    exact ⟨va, vb, l1, h1, l2, h2, e, f0, f3, by omega, by omega, by omega, by omega, d, ta, tb⟩
def conSh : Shape ConC where
  wd := 3
  rep o l h w cs x := ∃ va vb vc l1 h1 l2 h2 l3 h3, cs = [va, vb, vc] ∧ l ≤ l1 ∧ h1 ≤ h ∧ l ≤ l2 ∧ h2 ≤ h ∧ l ≤ l3 ∧ h3 ≤ h ∧ (o = true → (h1 ≤ l2 ∨ h2 ≤ l1) ∧ (h1 ≤ l3 ∨ h3 ≤ l1) ∧ (h2 ≤ l3 ∨ h3 ≤ l2)) ∧ Terms o l1 h1 w va x.a ∧ Terms o l2 h2 w vb x.b ∧ Terms o l3 h3 w vc x.c
  len h := by obtain ⟨va, vb, vc, l1, h1, l2, h2, l3, h3, rfl, _⟩ := h; rfl
  agree h s := by
    obtain ⟨va, vb, vc, l1, h1, l2, h2, l3, h3, e, p1, p2, p3, p4, p5, p6, d, ta, tb, tc⟩ := h
    exact ⟨va, vb, vc, l1, h1, l2, h2, l3, h3, e, p1, p2, p3, p4, p5, p6, d, ta.agree (s.sub p1 p2), tb.agree (s.sub p3 p4), tc.agree (s.sub p5 p6)⟩
  mono h a b := by
    obtain ⟨va, vb, vc, l1, h1, l2, h2, l3, h3, e, p1, p2, p3, p4, p5, p6, d, ta, tb, tc⟩ := h
    exact ⟨va, vb, vc, l1, h1, l2, h2, l3, h3, e, by omega, by omega, by omega, by omega, by omega, by omega, d, ta, tb, tc⟩

/-- Slices of combinations, of hints, of constraints. -/
def LinS (o : Bool) (l h : Nat) (w : World) (v : Value) (xs : List (List T)) : Prop := (Shape.row Shape.lin).rep o l h w [v] xs
def HintS (o : Bool) (l h : Nat) (w : World) (v : Value) (xs : List HintC) : Prop := (Shape.row hintSh).rep o l h w [v] xs
def ConS (o : Bool) (l h : Nat) (w : World) (v : Value) (xs : List ConC) : Prop := (Shape.row conSh).rep o l h w [v] xs

section
variable {o : Bool} {l h : Nat} {w w' : World} {v : Value}
theorem LinS.keep {B : Nat} {xs : List (List T)} (t : LinS o l h w v xs) (hb : Below B w w') (hl : h ≤ B) : LinS o l h w' v xs := Shape.keep (E := Shape.row Shape.lin) t hb hl
theorem HintS.keep {B : Nat} {xs : List HintC} (t : HintS o l h w v xs) (hb : Below B w w') (hl : h ≤ B) : HintS o l h w' v xs := Shape.keep (E := Shape.row hintSh) t hb hl
theorem ConS.keep {B : Nat} {xs : List ConC} (t : ConS o l h w v xs) (hb : Below B w w') (hl : h ≤ B) : ConS o l h w' v xs := Shape.keep (E := Shape.row conSh) t hb hl
theorem LinS.agree {xs : List (List T)} (t : LinS o l h w v xs) (s : Same l h w w') : LinS o l h w' v xs := (Shape.row Shape.lin).agree t s
theorem HintS.agree {xs : List HintC} (t : HintS o l h w v xs) (s : Same l h w w') : HintS o l h w' v xs := (Shape.row hintSh).agree t s
theorem ConS.agree {xs : List ConC} (t : ConS o l h w v xs) (s : Same l h w w') : ConS o l h w' v xs := (Shape.row conSh).agree t s
theorem LinS.mono {l' h' : Nat} {xs : List (List T)} (t : LinS o l h w v xs) (a : l' ≤ l) (b : h ≤ h') : LinS o l' h' w v xs := (Shape.row Shape.lin).mono t a b
theorem HintS.mono {l' h' : Nat} {xs : List HintC} (t : HintS o l h w v xs) (a : l' ≤ l) (b : h ≤ h') : HintS o l' h' w v xs := (Shape.row hintSh).mono t a b
theorem ConS.mono {l' h' : Nat} {xs : List ConC} (t : ConS o l h w v xs) (a : l' ≤ l) (b : h ≤ h') : ConS o l' h' w v xs := (Shape.row conSh).mono t a b
theorem LinS.shape {xs : List (List T)} (t : LinS o l h w v xs) : ∃ a cap, v = .slice a xs.length cap ∧ xs.length ≤ cap ∧ cap ≤ 9223372036854775807 := by
  obtain ⟨a, cap, e, h1, h2⟩ := Shape.row_shape (E := Shape.lin) t; simp only [List.cons.injEq, and_true] at e; exact ⟨a, cap, e, h1, h2⟩
theorem HintS.shape {xs : List HintC} (t : HintS o l h w v xs) : ∃ a cap, v = .slice a xs.length cap ∧ xs.length ≤ cap ∧ cap ≤ 9223372036854775807 := by
  obtain ⟨a, cap, e, h1, h2⟩ := Shape.row_shape (E := hintSh) t; simp only [List.cons.injEq, and_true] at e; exact ⟨a, cap, e, h1, h2⟩
theorem ConS.shape {xs : List ConC} (t : ConS o l h w v xs) : ∃ a cap, v = .slice a xs.length cap ∧ xs.length ≤ cap ∧ cap ≤ 9223372036854775807 := by
  obtain ⟨a, cap, e, h1, h2⟩ := Shape.row_shape (E := conSh) t; simp only [List.cons.injEq, and_true] at e; exact ⟨a, cap, e, h1, h2⟩
theorem LinS.nil : LinS o l h w (.slice none 0 0) [] := Shape.row_nil (E := Shape.lin) _ _ _ _
theorem HintS.nil : HintS o l h w (.slice none 0 0) [] := Shape.row_nil (E := hintSh) _ _ _ _
theorem ConS.nil : ConS o l h w (.slice none 0 0) [] := Shape.row_nil (E := conSh) _ _ _ _

theorem LinS.at {a : Option Addr} {n cap : Nat} {xs : List (List T)} (t : LinS o l h w (.slice a n cap) xs) {j : Nat} (hj : j < xs.length) :
    ∃ b off u, a = some ⟨b, off, none⟩ ∧ l ≤ b ∧ b < h ∧ w.cell? ⟨b, off + j, none⟩ = some u ∧ Terms o l h w u xs[j] := by
  obtain ⟨b, off, cs, e, h1, h2, hc, u, rfl, tu⟩ := Shape.row_at (E := Shape.lin) t hj
  have := hc 0 u rfl
  rw [show Shape.lin.wd = 1 from rfl, Nat.mul_one, Nat.add_zero] at this
  exact ⟨b, off, u, e, h1, h2, this, tu⟩
theorem HintS.at {a : Option Addr} {n cap : Nat} {xs : List HintC} (t : HintS o l h w (.slice a n cap) xs) {j : Nat} (hj : j < xs.length) :
    ∃ b off va vb, a = some ⟨b, off, none⟩ ∧ l ≤ b ∧ b < h ∧ w.cell? ⟨b, off + j * 4, none⟩ = some (.int .i64 xs[j].kind) ∧ w.cell? ⟨b, off + j * 4 + 1, none⟩ = some va ∧ w.cell? ⟨b, off + j * 4 + 2, none⟩ = some vb ∧ w.cell? ⟨b, off + j * 4 + 3, none⟩ = some (.int .i64 xs[j].k) ∧
      Fits xs[j].kind ∧ Fits xs[j].k ∧ Terms o l h w va xs[j].a ∧ Terms o l h w vb xs[j].b := by
  obtain ⟨b, off, cs, e, h1, h2, hc, va, vb, l1, h1', l2, h2', rfl, f0, f3, p1, p2, p3, p4, d, ta, tb⟩ := Shape.row_at (E := hintSh) t hj
  exact ⟨b, off, va, vb, e, h1, h2, hc 0 _ rfl, hc 1 _ rfl, hc 2 _ rfl, hc 3 _ rfl, f0, f3, ta.mono p1 p2, tb.mono p3 p4⟩
theorem ConS.at {a : Option Addr} {n cap : Nat} {xs : List ConC} (t : ConS o l h w (.slice a n cap) xs) {j : Nat} (hj : j < xs.length) :
    ∃ b off va vb vc, a = some ⟨b, off, none⟩ ∧ l ≤ b ∧ b < h ∧ w.cell? ⟨b, off + j * 3, none⟩ = some va ∧ w.cell? ⟨b, off + j * 3 + 1, none⟩ = some vb ∧ w.cell? ⟨b, off + j * 3 + 2, none⟩ = some vc ∧
      Terms o l h w va xs[j].a ∧ Terms o l h w vb xs[j].b ∧ Terms o l h w vc xs[j].c := by
  obtain ⟨b, off, cs, e, h1, h2, hc, va, vb, vc, l1, h1', l2, h2', l3, h3', rfl, p1, p2, p3, p4, p5, p6, d, ta, tb, tc⟩ := Shape.row_at (E := conSh) t hj
  exact ⟨b, off, va, vb, vc, e, h1, h2, hc 0 _ rfl, hc 1 _ rfl, hc 2 _ rfl, ta.mono p1 p2, tb.mono p3 p4, tc.mono p5 p6⟩

end

/-- A system's four fields read so. -/
def SysR (o : Bool) (l h : Nat) (w : World) (vi vo vh vc : Value) (s : SysC) : Prop :=
  vi = .int .i64 s.ins ∧ Fits s.ins ∧ ∃ l1 h1 l2 h2 l3 h3, l ≤ l1 ∧ h1 ≤ h ∧ l ≤ l2 ∧ h2 ≤ h ∧ l ≤ l3 ∧ h3 ≤ h ∧ (o = true → (h1 ≤ l2 ∨ h2 ≤ l1) ∧ (h1 ≤ l3 ∨ h3 ≤ l1) ∧ (h2 ≤ l3 ∨ h3 ≤ l2)) ∧
    LinS o l1 h1 w vo s.outs ∧ HintS o l2 h2 w vh s.hints ∧ ConS o l3 h3 w vc s.cons
section
variable {o : Bool} {l h : Nat} {w w' : World} {vi vo vh vc : Value} {s : SysC}
theorem SysR.agree (t : SysR o l h w vi vo vh vc s) (a : Same l h w w') : SysR o l h w' vi vo vh vc s := by
  obtain ⟨e, f, l1, h1, l2, h2, l3, h3, p1, p2, p3, p4, p5, p6, d, t1, t2, t3⟩ := t
  exact ⟨e, f, l1, h1, l2, h2, l3, h3, p1, p2, p3, p4, p5, p6, d, t1.agree (a.sub p1 p2), t2.agree (a.sub p3 p4), t3.agree (a.sub p5 p6)⟩
theorem SysR.keep {B : Nat} (t : SysR o l h w vi vo vh vc s) (hb : Below B w w') (hl : h ≤ B) : SysR o l h w' vi vo vh vc s := t.agree (Same.of_below hb hl)
theorem SysR.only {lo hi : Nat} (t : SysR o l h w vi vo vh vc s) (ho : Only lo hi w w') (hd : h ≤ lo ∨ hi ≤ l) (hs : h ≤ w.heap.size) : SysR o l h w' vi vo vh vc s := t.agree (Same.of_only ho hd hs)
theorem SysR.mono {l' h' : Nat} (t : SysR o l h w vi vo vh vc s) (a : l' ≤ l) (b : h ≤ h') : SysR o l' h' w vi vo vh vc s := by
  obtain ⟨e, f, l1, h1, l2, h2, l3, h3, p1, p2, p3, p4, p5, p6, d, t1, t2, t3⟩ := t
  exact ⟨e, f, l1, h1, l2, h2, l3, h3, by omega, by omega, by omega, by omega, by omega, by omega, d, t1, t2, t3⟩
theorem SysR.shape (t : SysR o l h w vi vo vh vc s) : ∃ ao ko ah kh ac kc, vi = .int .i64 s.ins ∧ vo = .slice ao s.outs.length ko ∧ vh = .slice ah s.hints.length kh ∧ vc = .slice ac s.cons.length kc ∧
    s.outs.length ≤ ko ∧ ko ≤ 9223372036854775807 ∧ s.hints.length ≤ kh ∧ kh ≤ 9223372036854775807 ∧ s.cons.length ≤ kc ∧ kc ≤ 9223372036854775807 ∧ Fits s.ins := by
  obtain ⟨e, f, l1, h1, l2, h2, l3, h3, p1, p2, p3, p4, p5, p6, d, t1, t2, t3⟩ := t
  obtain ⟨ao, ko, e1, q1, q2⟩ := t1.shape
  obtain ⟨ah, kh, e2, q3, q4⟩ := t2.shape
  obtain ⟨ac, kc, e3, q5, q6⟩ := t3.shape
  exact ⟨ao, ko, ah, kh, ac, kc, e, e1, e2, e3, q1, q2, q3, q4, q5, q6, f⟩
theorem SysR.parts (t : SysR o l h w vi vo vh vc s) : LinS o l h w vo s.outs ∧ HintS o l h w vh s.hints ∧ ConS o l h w vc s.cons := by
  obtain ⟨e, f, l1, h1, l2, h2, l3, h3, p1, p2, p3, p4, p5, p6, d, t1, t2, t3⟩ := t
  exact ⟨t1.mono p1 p2, t2.mono p3 p4, t3.mono p5 p6⟩
end
end Go.Proofs.Yteekpdlkdpkegaa.L
