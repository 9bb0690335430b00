/- Slices of bytes that a call makes: growth by appending; numbers in four bytes. -/
import Derived.Test.YtghjcedhoeoiiaaB1
import Derived.Test.YtghjcedhoeoiiaaNums2
import Derived.Maps.AppendAt
namespace Go.Proofs.Ytghjcedhoeoiiaa.L
open Go.RowKit Go.Proofs.Ytghjcedhoeoiiaa.S
set_option linter.unusedVariables false
set_option linter.unusedSimpArgs false

theorem byteInfo : (Try.prog.info? 5).map (fun i => (i.zero, i.size, i.bytes)) = some (some (.int .u8 0), 1, 1) := by kernel_rfl
/-- From w to w' only v's own row may have been written; v' lies in that row or in a new block. -/
structure Grew (w w' : World) (v v' : Value) : Prop where
  grown : w.grownBy w' v.ownBlock
  loc : v'.ownBlock = v.ownBlock ∨ ∃ g, v'.ownBlock = some g ∧ w.heap.size ≤ g
theorem Grew.refl (w : World) (v : Value) : Grew w w v v := ⟨⟨rfl, rfl, rfl, Nat.le_refl _, fun _ _ _ => rfl⟩, .inl rfl⟩
theorem Grew.trans {a b c : World} {u v x : Value} (h : Grew a b u v) (k : Grew b c v x) : Grew a c u x := by
  refine ⟨⟨k.grown.os.trans h.grown.os, k.grown.tape.trans h.grown.tape, k.grown.output.trans h.grown.output, Nat.le_trans h.grown.size k.grown.size, fun i hi hne => ?_⟩, ?_⟩
  · rw [← h.grown.block i hi hne]
    refine k.grown.block i (Nat.lt_of_lt_of_le hi h.grown.size) ?_
    rcases h.loc with e | ⟨g, e, hg⟩
    · rw [e]; exact hne
    · rw [e]; intro q; simp only [Option.some.injEq] at q; omega
  · rcases k.loc with e | ⟨g, e, hg⟩
    · rw [e]; exact h.loc
    · exact .inr ⟨g, e, Nat.le_trans h.grown.size hg⟩
theorem Grew.below {B base : Nat} {w w' : World} {v v' : Value} {e : TypeId} {size n : Nat} {xs : List Value} (h : Grew w w' v v') (hr : w.ownsRow base e size v n xs) (hb : B ≤ base) (hs : base ≤ w.heap.size) : Below B w w' :=
  (Below.refl B w).grown h.grown (Nat.le_trans hb hs) (fun j ej => Nat.le_trans hb (hr.lt j ej).1)
/-- A step that leaves all that was as it was, ahead. -/
theorem Grew.of_below {w w1 w' : World} {v v' : Value} (hb : Below w.heap.size w w1) (h : Grew w1 w' v v') : Grew w w' v v' := by
  refine ⟨⟨h.grown.os.trans hb.os, h.grown.tape.trans hb.tape, h.grown.output.trans hb.output, Nat.le_trans hb.size h.grown.size, fun i hi hne => ?_⟩, ?_⟩
  · rw [← hb.block i hi]; exact h.grown.block i (Nat.lt_of_lt_of_le hi hb.size) hne
  · rcases h.loc with e | ⟨g, e, hg⟩
    · exact .inl e
    · exact .inr ⟨g, e, Nat.le_trans hb.size hg⟩

def bv (bs : List Int) : List Value := bs.map (Value.int .u8)
theorem bv_append (a b : List Int) : bv (a ++ b) = bv a ++ bv b := by simp [bv]
theorem bv_length (a : List Int) : (bv a).length = a.length := by simp [bv]
/-- A number in four bytes. -/
def num4 (x : Int) : List Int := [x / 16777216, x / 65536 % 256, x / 256 % 256, x % 256]
theorem num4_length (x : Int) : (num4 x).length = 4 := rfl
theorem cells_new4 (w : World) (a b c d : Value) (t : TypeId) : ∀ j u, [a, b, c, d][j]? = some u → (w.alloc (.cells #[a, b, c, d] t)).cell? ((⟨w.heap.size, 0, none⟩ : Addr).add j) = some u := by
  intro j u hj
  rw [Go.WideShapes.add_plain]
  match j, hj with
  | 0, hj => simp at hj; subst hj; rw [World.cell?_alloc_at _ _ _ _ rfl]; rfl
  | 1, hj => simp at hj; subst hj; rw [World.cell?_alloc_at _ _ _ _ rfl]; rfl
  | 2, hj => simp at hj; subst hj; rw [World.cell?_alloc_at _ _ _ _ rfl]; rfl
  | 3, hj => simp at hj; subst hj; rw [World.cell?_alloc_at _ _ _ _ rfl]; rfl
/-- The result of a call that appends: the row grows by news. -/
def Adds (base : Nat) (w : World) (v : Value) (bs news : List Int) (e : Ending) (w' : World) : Prop :=
  ∃ v', e = .returned v' ∧ Grew w w' v v' ∧ w'.ownsRow base 5 1 v' (bs ++ news).length (bv (bs ++ news))
theorem Adds.mk {base : Nat} {w w1 w' : World} {v v' : Value} {bs news : List Int} {m : Nat} (hb : Below w.heap.size w w1) (hz : w1.heap.size = w.heap.size + 1) (hm : m = news.length) (hown : w'.ownsRow base 5 1 v' (bs.length + m) (bv bs ++ bv news)) (hg : w1.grownBy w' v.ownBlock)
    (hl : v'.ownBlock = v.ownBlock ∨ v'.ownBlock = some w1.heap.size) : Adds base w v bs news (.returned v') w' := by
  subst hm
  refine ⟨v', rfl, Grew.of_below hb ⟨hg, hl.imp id (fun h => ⟨_, h, Nat.le_refl _⟩)⟩, ?_⟩
  rw [List.length_append, bv_append]; exact hown

set_option maxRecDepth 100000 in
set_option maxHeartbeats 1600000 in
theorem l3num_any (base : Nat) (v : Value) (bs : List Int) (x : Int) (w : World) (hr : w.ownsRow base 5 1 v bs.length (bv bs)) (hb : base ≤ w.heap.size) (hn : bs.length ≤ 1099511627776) (x0 : 0 ≤ x) (x1 : x ≤ 4294967295) :
    Calls Try.prog 102 #[v, .int .i64 x] w (Adds base w v bs (num4 x)) := by
  obtain ⟨i0, hi0, hz0, hz1, hz2⟩ := info_parts byteInfo
  have bw : ∀ o, Below w.heap.size w (w.alloc o) := fun o => Below.alloc (Below.refl _ _) (Nat.le_refl _) o
  go_enter Try.func102, Try.ntmps102
  go_wp2_with (at_builtin; refine wpList_append_own_at _ rfl _ _ 22 rfl base 5 i0 (.int .u8 0) 1 1 Try.underlying22 hi0 hz0 hz1 hz2 rfl (by decide) _ _ _ rfl (hr.alloc _) ⟨w.heap.size, 0, none⟩ 4 4 (bv (num4 x)) rfl rfl (cells_new4 _ _ _ _ _ _) (by intro u hu; obtain ⟨y, _, rfl⟩ := List.mem_map.1 hu; rfl) (by unfold maxLen; omega) (by omega) (by simp; omega) ?_; intro v' w5 hown' hgrow hnil hloc)
  have fin := Adds.mk (bw _) (by simp) (num4_length x).symm hown' hgrow hloc
  clear hown' hgrow hnil hloc hr
  go_wp2_with fail
  go_ret
  exact fin
end Go.Proofs.Ytghjcedhoeoiiaa.L
