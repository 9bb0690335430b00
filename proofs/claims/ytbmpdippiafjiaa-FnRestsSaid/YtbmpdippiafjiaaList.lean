/- The draws of lists of layer 1. -/
import Derived.Test.YtbmpdippiafjiaaDrawF
import Derived.Test.YtbmpdippiafjiaaB1
namespace Go.Proofs.Ytbmpdippiafjiaa
open Go.RowKit
set_option linter.unusedVariables false

theorem intInfo : (Try.prog.info? 3).map (fun i => (i.zero, i.size, i.bytes)) = some (some (.int .i64 0), 1, 8) := by kernel_rfl

theorem own_ne {w : World} {base : Nat} {e : TypeId} {size : Nat} {v : Value} {n : Nat} {xs : List Value} (h : w.ownsRow base e size v n xs) {c : Nat} (hc : c < base) : v.ownBlock ≠ some c := by
  intro e
  have := (h.lt _ e).1
  omega

theorem grown_own {w w' w'' : World} {base c : Nat} {e : TypeId} {size : Nat} {v : Value} {n : Nat} {xs : List Value} (h : w.grownBy w' (some c)) (hb : w.heap.size ≤ base) (ho : w'.ownsRow base e size v n xs) (hg : w'.grownBy w'' v.ownBlock) : w.grownBy w'' (some c) :=
  ⟨hg.os.trans h.os, hg.tape.trans h.tape, hg.output.trans h.output, Nat.le_trans h.size hg.size, fun k hk hn =>
    (hg.block k (Nat.lt_of_lt_of_le hk h.size) (fun e => by have := (ho.lt k e.symm).1; omega)).trans (h.block k hk hn)⟩

/-- A cursor stays behind a write to a row of one's own. -/
theorem Cur.own {B : Nat} {w w' : World} {c base : Nat} {a : Option Addr} {len cap : Nat} {e : TypeId} {size : Nat} {v : Value} {n : Nat} {xs : List Value} (h : Cur B w c a len cap) (hB : B ≤ base) (hc : c < base) (hs : base ≤ w.heap.size) (ho : w.ownsRow base e size v n xs) (hg : w.grownBy w' v.ownBlock) : Cur B w' c a len cap := by
  have hlt : ∀ k, v.ownBlock = some k → base ≤ k := fun k hk => (ho.lt k hk).1
  exact h.keep ((Below.refl B w).grown hg (by omega) (fun k e => by have := hlt k e; omega)) (hg.block c (by omega) (fun e => by have := hlt c e.symm; omega))

/-- A list that was drawn: a row of one's own from base on. -/
def Listed (B base c : Nat) (a : Option Addr) (len cap : Nat) (m : Nat) (w : World) (e : Ending) (w' : World) : Prop :=
  ∃ (v : Value) (xs : List Int), e = .returned v ∧ xs.length = m ∧ (∀ x ∈ xs, Fits x) ∧ w'.ownsRow base 3 1 v m (xs.map (Value.int .i64)) ∧ Cur B w' c a len cap ∧ w.grownBy w' (some c)

set_option maxHeartbeats 400000 in
theorem l1Once_any (B c : Nat) (a : Option Addr) (len cap : Nat) (n : Int) (w : World) (n1 : n ≤ 9223372036854775807) (hB : B ≤ w.heap.size) (hcur : Cur B w c a len cap) :
    Calls Try.prog 23 #[.pointer (some ⟨c, 0, none⟩), .int .i64 n] w fun e w' => ∃ b : Bool, e = .returned (.bool b) ∧ Cur B w' c a len cap ∧ w.grownBy w' (some c) := by
  go_enter Try.func23, Try.ntmps23
  go_wp2_with fail
  refine (l1Below_any B c a len cap _ _ n1 hB hcur).mono ?_
  rintro e w1 ⟨x, rfl, hx, cu, gr⟩
  go_wp2_with fail
  go_ret
  exact ⟨_, rfl, cu, gr⟩

end Go.Proofs.Ytbmpdippiafjiaa
