/- New systems: the program's function and its model. -/
import Derived.Test.YtaohghgdjnkgdaaSpecOk
import Derived.Test.YtaohghgdjnkgdaaMarks
import Derived.Test.YtaohghgdjnkgdaaEqS
namespace Go.Proofs.Ytaohghgdjnkgdaa.L
open Go.RowKit Go.Proofs.Ytaohghgdjnkgdaa.S
set_option linter.unusedVariables false
set_option linter.unusedSimpArgs false

def nil3 (n : Int) : SysC := ⟨n, [], [], []⟩
def newOk (n : Int) : Bool := decide (0 ≤ n ∧ n ≤ 100)
def newIns (n : Int) : Int := if newOk n = true then n else 0
theorem sysOk_nil3 (n : Int) : sysOk (nil3 n) = newOk n := by
  unfold sysOk limB newOk nil3 varsN
  simp only [hintsB, outsB, consB, List.all_nil, Bool.and_self, Bool.and_true, List.length_nil]
  rw [decide_eq_decide]
  omega
theorem nil3_rep (o : Bool) (l h : Nat) (w : World) (n : Int) (f : Fits n) (hlh : l ≤ h) : SysR o l h w (.int .i64 n) (.slice none 0 0) (.slice none 0 0) (.slice none 0 0) (nil3 n) :=
  ⟨rfl, f, l, l, l, l, l, l, Nat.le_refl _, hlh, Nat.le_refl _, hlh, Nat.le_refl _, hlh, fun _ => ⟨.inl (Nat.le_refl _), .inl (Nat.le_refl _), .inl (Nat.le_refl _)⟩, LinS.nil, HintS.nil, ConS.nil⟩
theorem newIns_fits (n : Int) (h0 : -9223372036854775808 ≤ n) (h1 : n ≤ 9223372036854775807) : Fits (newIns n) := by unfold newIns Fits; split <;> omega

set_option maxRecDepth 100000 in
set_option maxHeartbeats 1600000 in
theorem sysNew_impl (n : Int) (w : World) (n0 : -9223372036854775808 ≤ n) (n1 : n ≤ 9223372036854775807) :
    Calls Try.prog 20 #[.int .i64 n] w fun e w' => e = .returned (.tuple #[.agg #[.int .i64 (newIns n), .slice none 0 0, .slice none 0 0, .slice none 0 0], .bool (newOk n)]) ∧ Below w.heap.size w w' := by
  have OK := sysOk_impl false 0 0 (.int .i64 n) (.slice none 0 0) (.slice none 0 0) (.slice none 0 0) (nil3 n)
  cases hk : newOk n
  · have E : Hid (newIns n = 0) := Lib.hid (by unfold newIns; rw [hk]; simp)
    rw [sysOk_nil3, hk] at OK
    rw [E.out]
    have H := Lib.hid OK
    clear OK hk
    go_enter Try.func20, Try.ntmps20
    go_wp2_with fail
    refine name_call fun w1 hw1 => ?_
    have b1 : Below w.heap.size w w1 := by rw [hw1]; (repeat (first | with_reducible exact Below.refl _ _ | with_reducible assumption | with_reducible refine Below.drew ?_ | with_reducible refine bdrewN ?_ _ | ((with_reducible refine balloc ?_ ?_ _); (focus (first | with_reducible exact Nat.le_refl _ | (simp; done) | omega | (simp; omega) | exact Nat.le_refl _))) | ((with_reducible refine bset ?_ ?_ _); (focus (first | with_reducible exact Nat.le_refl _ | (simp; done) | omega | (simp; omega) | exact Nat.le_refl _)))))
    have z1 : w1.heap.size = w.heap.size + 2 := by rw [hw1]; simp
    have r0 : w1.cell? ⟨w.heap.size, 0, none⟩ = some (.int .i64 0) := by rw [hw1]; go_simp
    have s0 : w1.cell? ⟨w.heap.size + 1, 0, none⟩ = some (.int .i64 n) := by rw [hw1]; go_simp
    have r1 : w1.cell? ⟨w.heap.size, 1, none⟩ = some (.slice none 0 0) := by rw [hw1]; go_simp
    have s1 : w1.cell? ⟨w.heap.size + 1, 1, none⟩ = some (.slice none 0 0) := by rw [hw1]; go_simp
    have r2 : w1.cell? ⟨w.heap.size, 2, none⟩ = some (.slice none 0 0) := by rw [hw1]; go_simp
    have s2 : w1.cell? ⟨w.heap.size + 1, 2, none⟩ = some (.slice none 0 0) := by rw [hw1]; go_simp
    have r3 : w1.cell? ⟨w.heap.size, 3, none⟩ = some (.slice none 0 0) := by rw [hw1]; go_simp
    have s3 : w1.cell? ⟨w.heap.size + 1, 3, none⟩ = some (.slice none 0 0) := by rw [hw1]; go_simp
    have F : ∀ i, w1.frozen? ⟨w.heap.size, i, none⟩ = false := by intro i; rw [hw1]; go_simp
    clear hw1
    refine (H.out w1 (nil3_rep _ _ _ _ _ ⟨n0, n1⟩ (Nat.le_refl _)) (Nat.zero_le _) (by simp [nil3]) (by simp [nil3]) (by simp [nil3])).mono ?_; rintro e w2 ⟨rfl, f2⟩
    have z2 := f2.size
    have b2 := b1.trans (f2.mono (by omega))
    have p0 := cell_keep f2 r0
    have q0 := cell_keep f2 s0
    have p1 := cell_keep f2 r1
    have q1 := cell_keep f2 s1
    have p2 := cell_keep f2 r2
    have q2 := cell_keep f2 s2
    have p3 := cell_keep f2 r3
    have q3 := cell_keep f2 s3
    have G : ∀ i, w2.frozen? ⟨w.heap.size, i, none⟩ = false := fun i => (f2.frozen (p := ⟨w.heap.size, i, none⟩) (show w.heap.size < w1.heap.size by omega)).trans (F i)
    have l1 : w.heap.size < w2.heap.size := by omega
    have l2 : w.heap.size + 1 < w2.heap.size := by omega
    clear r0 r1 r2 r3 s0 s1 s2 s3 F
    go_wp2_with fail
    exact bodyPost_ret (v := .tuple #[.agg #[.int .i64 0, .slice none 0 0, .slice none 0 0, .slice none 0 0], .bool false]) (by simp [results, Try.results20, go_sem, p0, p1, p2, p3, q0, q1, q2, q3]) rfl ⟨rfl, by (repeat (first | with_reducible exact Below.refl _ _ | with_reducible assumption | with_reducible refine Below.drew ?_ | with_reducible refine bdrewN ?_ _ | ((with_reducible refine balloc ?_ ?_ _); (focus (first | with_reducible exact Nat.le_refl _ | (simp; done) | omega | (simp; omega) | exact Nat.le_refl _))) | ((with_reducible refine bset ?_ ?_ _); (focus (first | with_reducible exact Nat.le_refl _ | (simp; done) | omega | (simp; omega) | exact Nat.le_refl _)))))⟩
  · have E : Hid (newIns n = n) := Lib.hid (by unfold newIns; rw [hk]; simp)
    rw [sysOk_nil3, hk] at OK
    rw [E.out]
    have H := Lib.hid OK
    clear OK hk
    go_enter Try.func20, Try.ntmps20
    go_wp2_with fail
    refine name_call fun w1 hw1 => ?_
    have b1 : Below w.heap.size w w1 := by rw [hw1]; (repeat (first | with_reducible exact Below.refl _ _ | with_reducible assumption | with_reducible refine Below.drew ?_ | with_reducible refine bdrewN ?_ _ | ((with_reducible refine balloc ?_ ?_ _); (focus (first | with_reducible exact Nat.le_refl _ | (simp; done) | omega | (simp; omega) | exact Nat.le_refl _))) | ((with_reducible refine bset ?_ ?_ _); (focus (first | with_reducible exact Nat.le_refl _ | (simp; done) | omega | (simp; omega) | exact Nat.le_refl _)))))
    have z1 : w1.heap.size = w.heap.size + 2 := by rw [hw1]; simp
    have r0 : w1.cell? ⟨w.heap.size, 0, none⟩ = some (.int .i64 0) := by rw [hw1]; go_simp
    have s0 : w1.cell? ⟨w.heap.size + 1, 0, none⟩ = some (.int .i64 n) := by rw [hw1]; go_simp
    have r1 : w1.cell? ⟨w.heap.size, 1, none⟩ = some (.slice none 0 0) := by rw [hw1]; go_simp
    have s1 : w1.cell? ⟨w.heap.size + 1, 1, none⟩ = some (.slice none 0 0) := by rw [hw1]; go_simp
    have r2 : w1.cell? ⟨w.heap.size, 2, none⟩ = some (.slice none 0 0) := by rw [hw1]; go_simp
    have s2 : w1.cell? ⟨w.heap.size + 1, 2, none⟩ = some (.slice none 0 0) := by rw [hw1]; go_simp
    have r3 : w1.cell? ⟨w.heap.size, 3, none⟩ = some (.slice none 0 0) := by rw [hw1]; go_simp
    have s3 : w1.cell? ⟨w.heap.size + 1, 3, none⟩ = some (.slice none 0 0) := by rw [hw1]; go_simp
    have F : ∀ i, w1.frozen? ⟨w.heap.size, i, none⟩ = false := by intro i; rw [hw1]; go_simp
    clear hw1
    refine (H.out w1 (nil3_rep _ _ _ _ _ ⟨n0, n1⟩ (Nat.le_refl _)) (Nat.zero_le _) (by simp [nil3]) (by simp [nil3]) (by simp [nil3])).mono ?_; rintro e w2 ⟨rfl, f2⟩
    have z2 := f2.size
    have b2 := b1.trans (f2.mono (by omega))
    have p0 := cell_keep f2 r0
    have q0 := cell_keep f2 s0
    have p1 := cell_keep f2 r1
    have q1 := cell_keep f2 s1
    have p2 := cell_keep f2 r2
    have q2 := cell_keep f2 s2
    have p3 := cell_keep f2 r3
    have q3 := cell_keep f2 s3
    have G : ∀ i, w2.frozen? ⟨w.heap.size, i, none⟩ = false := fun i => (f2.frozen (p := ⟨w.heap.size, i, none⟩) (show w.heap.size < w1.heap.size by omega)).trans (F i)
    have l1 : w.heap.size < w2.heap.size := by omega
    have l2 : w.heap.size + 1 < w2.heap.size := by omega
    clear r0 r1 r2 r3 s0 s1 s2 s3 F
    go_wp2_with fail
    exact bodyPost_ret (v := .tuple #[.agg #[.int .i64 n, .slice none 0 0, .slice none 0 0, .slice none 0 0], .bool true]) (by simp [results, Try.results20, go_sem, p0, p1, p2, p3, q0, q1, q2, q3]) rfl ⟨rfl, by (repeat (first | with_reducible exact Below.refl _ _ | with_reducible assumption | with_reducible refine Below.drew ?_ | with_reducible refine bdrewN ?_ _ | ((with_reducible refine balloc ?_ ?_ _); (focus (first | with_reducible exact Nat.le_refl _ | (simp; done) | omega | (simp; omega) | exact Nat.le_refl _))) | ((with_reducible refine bset ?_ ?_ _); (focus (first | with_reducible exact Nat.le_refl _ | (simp; done) | omega | (simp; omega) | exact Nat.le_refl _)))))⟩

set_option maxRecDepth 100000 in
set_option maxHeartbeats 1600000 in
theorem sysNew_spec (n : Int) (w : World) (n0 : -9223372036854775808 ≤ n) (n1 : n ≤ 9223372036854775807) :
    Calls Try.prog 19 #[.int .i64 n] w fun e w' => e = .returned (.tuple #[.agg #[.int .i64 (newIns n), .slice none 0 0, .slice none 0 0, .slice none 0 0], .bool (newOk n)]) ∧ Below w.heap.size w w' := by
  have OK := sysOk_spec false 0 0 (.int .i64 n) (.slice none 0 0) (.slice none 0 0) (.slice none 0 0) (nil3 n)
  cases hk : newOk n
  · have E : Hid (newIns n = 0) := Lib.hid (by unfold newIns; rw [hk]; simp)
    rw [sysOk_nil3, hk] at OK
    rw [E.out]
    have H := Lib.hid OK
    clear OK hk
    go_enter Try.func19, Try.ntmps19
    go_wp2_with fail
    refine name_call fun w1 hw1 => ?_
    have b1 : Below w.heap.size w w1 := by rw [hw1]; (repeat (first | with_reducible exact Below.refl _ _ | with_reducible assumption | with_reducible refine Below.drew ?_ | with_reducible refine bdrewN ?_ _ | ((with_reducible refine balloc ?_ ?_ _); (focus (first | with_reducible exact Nat.le_refl _ | (simp; done) | omega | (simp; omega) | exact Nat.le_refl _))) | ((with_reducible refine bset ?_ ?_ _); (focus (first | with_reducible exact Nat.le_refl _ | (simp; done) | omega | (simp; omega) | exact Nat.le_refl _)))))
    have z1 : w1.heap.size = w.heap.size + 2 := by rw [hw1]; simp
    have r0 : w1.cell? ⟨w.heap.size, 0, none⟩ = some (.int .i64 0) := by rw [hw1]; go_simp
    have s0 : w1.cell? ⟨w.heap.size + 1, 0, none⟩ = some (.int .i64 n) := by rw [hw1]; go_simp
    have r1 : w1.cell? ⟨w.heap.size, 1, none⟩ = some (.slice none 0 0) := by rw [hw1]; go_simp
    have s1 : w1.cell? ⟨w.heap.size + 1, 1, none⟩ = some (.slice none 0 0) := by rw [hw1]; go_simp
    have r2 : w1.cell? ⟨w.heap.size, 2, none⟩ = some (.slice none 0 0) := by rw [hw1]; go_simp
    have s2 : w1.cell? ⟨w.heap.size + 1, 2, none⟩ = some (.slice none 0 0) := by rw [hw1]; go_simp
    have r3 : w1.cell? ⟨w.heap.size, 3, none⟩ = some (.slice none 0 0) := by rw [hw1]; go_simp
    have s3 : w1.cell? ⟨w.heap.size + 1, 3, none⟩ = some (.slice none 0 0) := by rw [hw1]; go_simp
    have F : ∀ i, w1.frozen? ⟨w.heap.size, i, none⟩ = false := by intro i; rw [hw1]; go_simp
    clear hw1
    refine (H.out w1 (nil3_rep _ _ _ _ _ ⟨n0, n1⟩ (Nat.le_refl _)) (Nat.zero_le _) (by simp [nil3]) (by simp [nil3]) (by simp [nil3])).mono ?_; rintro e w2 ⟨rfl, f2⟩
    have z2 := f2.size
    have b2 := b1.trans (f2.mono (by omega))
    have p0 := cell_keep f2 r0
    have q0 := cell_keep f2 s0
    have p1 := cell_keep f2 r1
    have q1 := cell_keep f2 s1
    have p2 := cell_keep f2 r2
    have q2 := cell_keep f2 s2
    have p3 := cell_keep f2 r3
    have q3 := cell_keep f2 s3
    have G : ∀ i, w2.frozen? ⟨w.heap.size, i, none⟩ = false := fun i => (f2.frozen (p := ⟨w.heap.size, i, none⟩) (show w.heap.size < w1.heap.size by omega)).trans (F i)
    have l1 : w.heap.size < w2.heap.size := by omega
    have l2 : w.heap.size + 1 < w2.heap.size := by omega
    clear r0 r1 r2 r3 s0 s1 s2 s3 F
    go_wp2_with fail
    exact bodyPost_ret (v := .tuple #[.agg #[.int .i64 0, .slice none 0 0, .slice none 0 0, .slice none 0 0], .bool false]) (by simp [results, Try.results19, go_sem, p0, p1, p2, p3, q0, q1, q2, q3]) rfl ⟨rfl, by (repeat (first | with_reducible exact Below.refl _ _ | with_reducible assumption | with_reducible refine Below.drew ?_ | with_reducible refine bdrewN ?_ _ | ((with_reducible refine balloc ?_ ?_ _); (focus (first | with_reducible exact Nat.le_refl _ | (simp; done) | omega | (simp; omega) | exact Nat.le_refl _))) | ((with_reducible refine bset ?_ ?_ _); (focus (first | with_reducible exact Nat.le_refl _ | (simp; done) | omega | (simp; omega) | exact Nat.le_refl _)))))⟩
  · have E : Hid (newIns n = n) := Lib.hid (by unfold newIns; rw [hk]; simp)
    rw [sysOk_nil3, hk] at OK
    rw [E.out]
    have H := Lib.hid OK
    clear OK hk
    go_enter Try.func19, Try.ntmps19
    go_wp2_with fail
    refine name_call fun w1 hw1 => ?_
    have b1 : Below w.heap.size w w1 := by rw [hw1]; (repeat (first | with_reducible exact Below.refl _ _ | with_reducible assumption | with_reducible refine Below.drew ?_ | with_reducible refine bdrewN ?_ _ | ((with_reducible refine balloc ?_ ?_ _); (focus (first | with_reducible exact Nat.le_refl _ | (simp; done) | omega | (simp; omega) | exact Nat.le_refl _))) | ((with_reducible refine bset ?_ ?_ _); (focus (first | with_reducible exact Nat.le_refl _ | (simp; done) | omega | (simp; omega) | exact Nat.le_refl _)))))
    have z1 : w1.heap.size = w.heap.size + 2 := by rw [hw1]; simp
    have r0 : w1.cell? ⟨w.heap.size, 0, none⟩ = some (.int .i64 0) := by rw [hw1]; go_simp
    have s0 : w1.cell? ⟨w.heap.size + 1, 0, none⟩ = some (.int .i64 n) := by rw [hw1]; go_simp
    have r1 : w1.cell? ⟨w.heap.size, 1, none⟩ = some (.slice none 0 0) := by rw [hw1]; go_simp
    have s1 : w1.cell? ⟨w.heap.size + 1, 1, none⟩ = some (.slice none 0 0) := by rw [hw1]; go_simp
    have r2 : w1.cell? ⟨w.heap.size, 2, none⟩ = some (.slice none 0 0) := by rw [hw1]; go_simp
    have s2 : w1.cell? ⟨w.heap.size + 1, 2, none⟩ = some (.slice none 0 0) := by rw [hw1]; go_simp
    have r3 : w1.cell? ⟨w.heap.size, 3, none⟩ = some (.slice none 0 0) := by rw [hw1]; go_simp
    have s3 : w1.cell? ⟨w.heap.size + 1, 3, none⟩ = some (.slice none 0 0) := by rw [hw1]; go_simp
    have F : ∀ i, w1.frozen? ⟨w.heap.size, i, none⟩ = false := by intro i; rw [hw1]; go_simp
    clear hw1
    refine (H.out w1 (nil3_rep _ _ _ _ _ ⟨n0, n1⟩ (Nat.le_refl _)) (Nat.zero_le _) (by simp [nil3]) (by simp [nil3]) (by simp [nil3])).mono ?_; rintro e w2 ⟨rfl, f2⟩
    have z2 := f2.size
    have b2 := b1.trans (f2.mono (by omega))
    have p0 := cell_keep f2 r0
    have q0 := cell_keep f2 s0
    have p1 := cell_keep f2 r1
    have q1 := cell_keep f2 s1
    have p2 := cell_keep f2 r2
    have q2 := cell_keep f2 s2
    have p3 := cell_keep f2 r3
    have q3 := cell_keep f2 s3
    have G : ∀ i, w2.frozen? ⟨w.heap.size, i, none⟩ = false := fun i => (f2.frozen (p := ⟨w.heap.size, i, none⟩) (show w.heap.size < w1.heap.size by omega)).trans (F i)
    have l1 : w.heap.size < w2.heap.size := by omega
    have l2 : w.heap.size + 1 < w2.heap.size := by omega
    clear r0 r1 r2 r3 s0 s1 s2 s3 F
    go_wp2_with fail
    exact bodyPost_ret (v := .tuple #[.agg #[.int .i64 n, .slice none 0 0, .slice none 0 0, .slice none 0 0], .bool true]) (by simp [results, Try.results19, go_sem, p0, p1, p2, p3, q0, q1, q2, q3]) rfl ⟨rfl, by (repeat (first | with_reducible exact Below.refl _ _ | with_reducible assumption | with_reducible refine Below.drew ?_ | with_reducible refine bdrewN ?_ _ | ((with_reducible refine balloc ?_ ?_ _); (focus (first | with_reducible exact Nat.le_refl _ | (simp; done) | omega | (simp; omega) | exact Nat.le_refl _))) | ((with_reducible refine bset ?_ ?_ _); (focus (first | with_reducible exact Nat.le_refl _ | (simp; done) | omega | (simp; omega) | exact Nat.le_refl _)))))⟩

theorem heldLinS_nil (m : Nat) (w : World) (hm : m ≤ 16777216) : Calls Try.prog 77 #[.slice none 0 0, .int .i64 m] w fun e w' => e = .returned (.int .i64 m) ∧ w = w' := by
  go_enter Try.func77, Try.ntmps77
  go_wp2_with fail
  go_loop [1, 5] (fun q i => q = .int .i64 m ∧ i = .int .i64 0) (fun q i => 0)
  case atStart => exact ⟨rfl, rfl⟩
  case round =>
    obtain ⟨rfl, rfl⟩ := hrel
    go_wp2_with fail
    go_ret
    exact ⟨rfl, rfl⟩
theorem heldHintS_nil (m : Nat) (w : World) (hm : m ≤ 16777216) : Calls Try.prog 78 #[.slice none 0 0, .int .i64 m] w fun e w' => e = .returned (.int .i64 m) ∧ w = w' := by
  go_enter Try.func78, Try.ntmps78
  go_wp2_with fail
  go_loop [1, 5] (fun q i => q = .int .i64 m ∧ i = .int .i64 0) (fun q i => 0)
  case atStart => exact ⟨rfl, rfl⟩
  case round =>
    obtain ⟨rfl, rfl⟩ := hrel
    go_wp2_with fail
    go_ret
    exact ⟨rfl, rfl⟩
theorem heldConS_nil (m : Nat) (w : World) (hm : m ≤ 16777216) : Calls Try.prog 79 #[.slice none 0 0, .int .i64 m] w fun e w' => e = .returned (.int .i64 m) ∧ w = w' := by
  go_enter Try.func79, Try.ntmps79
  go_wp2_with fail
  go_loop [1, 5] (fun q i => q = .int .i64 m ∧ i = .int .i64 0) (fun q i => 0)
  case atStart => exact ⟨rfl, rfl⟩
  case round =>
    obtain ⟨rfl, rfl⟩ := hrel
    go_wp2_with fail
    go_ret
    exact ⟨rfl, rfl⟩
theorem heldSys_nil (n : Int) (m : Nat) (w : World) (hm : m ≤ 16777216) :
    Calls Try.prog 22 #[.agg #[.int .i64 n, .slice none 0 0, .slice none 0 0, .slice none 0 0], .int .i64 m] w fun e w' => e = .returned (.int .i64 m) ∧ Below w.heap.size w w' := by
  go_enter Try.func22, Try.ntmps22
  go_wp2_with fail
  refine (heldLinS_nil m _ hm).mono ?_; rintro e w' ⟨rfl, rfl⟩
  go_wp2_with fail
  refine (heldHintS_nil m _ hm).mono ?_; rintro e w' ⟨rfl, rfl⟩
  go_wp2_with fail
  refine (heldConS_nil m _ hm).mono ?_; rintro e w' ⟨rfl, rfl⟩
  go_wp2_with fail
  go_ret
  exact ⟨rfl, by (repeat (first | with_reducible exact Below.refl _ _ | with_reducible assumption | with_reducible refine Below.drew ?_ | with_reducible refine bdrewN ?_ _ | ((with_reducible refine balloc ?_ ?_ _); (focus (first | with_reducible exact Nat.le_refl _ | (simp; done) | omega | (simp; omega) | exact Nat.le_refl _))) | ((with_reducible refine bset ?_ ?_ _); (focus (first | with_reducible exact Nat.le_refl _ | (simp; done) | omega | (simp; omega) | exact Nat.le_refl _)))))⟩
theorem markSys_nil (n : Int) (f : Fits n) (w : World) :
    Calls Try.prog 21 #[.agg #[.int .i64 n, .slice none 0 0, .slice none 0 0, .slice none 0 0], .int .i64 1] w fun e w' => e = .returned (.int .i64 1) ∧ Below w.heap.size w w' :=
  (markSys_any w.heap.size w.heap.size _ _ _ _ (nil3 n) 1 w (nil3_rep _ _ _ _ _ f (Nat.le_refl _)) (Nat.le_refl _) (by simp [totS, nil3, tot])).mono fun e w' ⟨he, ho, _⟩ => ⟨by rw [he]; simp [totS, nil3, tot], ho.below (Nat.le_refl _) (Nat.le_refl _)⟩
theorem eqSys_nil (n : Int) (f : Fits n) (w : World) :
    Calls Try.prog 18 #[.agg #[.int .i64 n, .slice none 0 0, .slice none 0 0, .slice none 0 0], .agg #[.int .i64 n, .slice none 0 0, .slice none 0 0, .slice none 0 0]] w fun e w' => e = .returned (.bool true) ∧ Below w.heap.size w w' :=
  eqSys_same false 0 0 _ _ _ _ false 0 0 _ _ _ _ (nil3 n) w (nil3_rep _ _ _ _ _ f (Nat.le_refl _)) (nil3_rep _ _ _ _ _ f (Nat.le_refl _)) (Nat.zero_le _) (Nat.zero_le _)

set_option maxRecDepth 100000 in
set_option maxHeartbeats 6400000 in
theorem law_FnExactSysNew (n : Int) (w : World) (n0 : -9223372036854775808 ≤ n) (n1 : n ≤ 9223372036854775807) :
    Calls Try.prog 4 #[.int .i64 n] w fun e w' => e = .returned (.bool true) ∧ Below w.heap.size w w' := by
  have FT := newIns_fits n n0 n1
  have HI := Lib.hid (sysNew_impl n)
  have HS := Lib.hid (sysNew_spec n)
  generalize newIns n = m at *
  generalize newOk n = ok at *
  go_enter Try.func4, Try.ntmps4
  go_wp2_with fail
  refine name_call fun w1 hw1 => ?_
  have b1 : Below w.heap.size w w1 := by rw [hw1]; (repeat (first | with_reducible exact Below.refl _ _ | with_reducible assumption | with_reducible refine Below.drew ?_ | with_reducible refine bdrewN ?_ _ | ((with_reducible refine balloc ?_ ?_ _); (focus (first | with_reducible exact Nat.le_refl _ | (simp; done) | omega | (simp; omega) | exact Nat.le_refl _))) | ((with_reducible refine bset ?_ ?_ _); (focus (first | with_reducible exact Nat.le_refl _ | (simp; done) | omega | (simp; omega) | exact Nat.le_refl _)))))
  have z1 : w.heap.size + 0 ≤ w1.heap.size := by rw [hw1]; simp
  clear hw1
  refine (HS.out _ n0 n1).mono ?_; rintro e w2 ⟨rfl, f2⟩
  have b2 := b1.trans (f2.mono (by omega))
  have z2 := f2.size
  go_wp2_with fail
  refine name_call fun w3 hw3 => ?_
  have b3 : Below w.heap.size w w3 := by rw [hw3]; (repeat (first | with_reducible exact Below.refl _ _ | with_reducible assumption | with_reducible refine Below.drew ?_ | with_reducible refine bdrewN ?_ _ | ((with_reducible refine balloc ?_ ?_ _); (focus (first | with_reducible exact Nat.le_refl _ | (simp; done) | omega | (simp; omega) | exact Nat.le_refl _))) | ((with_reducible refine bset ?_ ?_ _); (focus (first | with_reducible exact Nat.le_refl _ | (simp; done) | omega | (simp; omega) | exact Nat.le_refl _)))))
  have z3 : w2.heap.size + 1 ≤ w3.heap.size := by rw [hw3]; simp
  have cW03 : w3.cell? ⟨w2.heap.size, 0, none⟩ = some (.int .i64 m) := by rw [hw3]; first | (simp; done) | go_simp
  have cW13 : w3.cell? ⟨w2.heap.size, 1, none⟩ = some (.slice none 0 0) := by rw [hw3]; first | (simp; done) | go_simp
  have cW23 : w3.cell? ⟨w2.heap.size, 2, none⟩ = some (.slice none 0 0) := by rw [hw3]; first | (simp; done) | go_simp
  have cW33 : w3.cell? ⟨w2.heap.size, 3, none⟩ = some (.slice none 0 0) := by rw [hw3]; first | (simp; done) | go_simp
  clear hw3
  refine (HI.out _ n0 n1).mono ?_; rintro e w4 ⟨rfl, f4⟩
  have b4 := b3.trans (f4.mono (by omega))
  have z4 := f4.size
  have cW04 := cell_keep f4 cW03
  have cW14 := cell_keep f4 cW13
  have cW24 := cell_keep f4 cW23
  have cW34 := cell_keep f4 cW33
  clear cW03 cW13 cW23 cW33
  have lcW04 : w2.heap.size < w4.heap.size := World.block_lt_of_cell? _ _ cW04
  go_wp2_with fail
  refine name_call fun w5 hw5 => ?_
  have b5 : Below w.heap.size w w5 := by rw [hw5]; (repeat (first | with_reducible exact Below.refl _ _ | with_reducible assumption | with_reducible refine Below.drew ?_ | with_reducible refine bdrewN ?_ _ | ((with_reducible refine balloc ?_ ?_ _); (focus (first | with_reducible exact Nat.le_refl _ | (simp; done) | omega | (simp; omega) | exact Nat.le_refl _))) | ((with_reducible refine bset ?_ ?_ _); (focus (first | with_reducible exact Nat.le_refl _ | (simp; done) | omega | (simp; omega) | exact Nat.le_refl _)))))
  have z5 : w4.heap.size + 1 ≤ w5.heap.size := by rw [hw5]; simp
  have e5 : Below w4.heap.size w4 w5 := by rw [hw5]; (repeat (first | with_reducible exact Below.refl _ _ | with_reducible assumption | with_reducible refine Below.drew ?_ | with_reducible refine bdrewN ?_ _ | ((with_reducible refine balloc ?_ ?_ _); (focus (first | with_reducible exact Nat.le_refl _ | (simp; done) | omega | (simp; omega) | exact Nat.le_refl _))) | ((with_reducible refine bset ?_ ?_ _); (focus (first | with_reducible exact Nat.le_refl _ | (simp; done) | omega | (simp; omega) | exact Nat.le_refl _)))))
  have cW05 := cell_keep e5 cW04
  have cW15 := cell_keep e5 cW14
  have cW25 := cell_keep e5 cW24
  have cW35 := cell_keep e5 cW34
  have cG05 : w5.cell? ⟨w4.heap.size, 0, none⟩ = some (.int .i64 m) := by rw [hw5]; first | (simp; done) | go_simp
  have cG15 : w5.cell? ⟨w4.heap.size, 1, none⟩ = some (.slice none 0 0) := by rw [hw5]; first | (simp; done) | go_simp
  have cG25 : w5.cell? ⟨w4.heap.size, 2, none⟩ = some (.slice none 0 0) := by rw [hw5]; first | (simp; done) | go_simp
  have cG35 : w5.cell? ⟨w4.heap.size, 3, none⟩ = some (.slice none 0 0) := by rw [hw5]; first | (simp; done) | go_simp
  clear hw5 lcW04 cW04 cW14 cW24 cW34
  refine (eqSys_nil m FT _).mono ?_; rintro e w6 ⟨rfl, f6⟩
  have b6 := b5.trans (f6.mono (by omega))
  have z6 := f6.size
  have cW06 := cell_keep f6 cW05
  have cW16 := cell_keep f6 cW15
  have cW26 := cell_keep f6 cW25
  have cW36 := cell_keep f6 cW35
  have cG06 := cell_keep f6 cG05
  have cG16 := cell_keep f6 cG15
  have cG26 := cell_keep f6 cG25
  have cG36 := cell_keep f6 cG35
  clear cW05 cW15 cW25 cW35 cG05 cG15 cG25 cG35
  have lcW06 : w2.heap.size < w6.heap.size := World.block_lt_of_cell? _ _ cW06
  have lcG06 : w4.heap.size < w6.heap.size := World.block_lt_of_cell? _ _ cG06
  go_wp2_with fail
  refine name_call fun w7 hw7 => ?_
  have b7 : Below w.heap.size w w7 := by rw [hw7]; (repeat (first | with_reducible exact Below.refl _ _ | with_reducible assumption | with_reducible refine Below.drew ?_ | with_reducible refine bdrewN ?_ _ | ((with_reducible refine balloc ?_ ?_ _); (focus (first | with_reducible exact Nat.le_refl _ | (simp; done) | omega | (simp; omega) | exact Nat.le_refl _))) | ((with_reducible refine bset ?_ ?_ _); (focus (first | with_reducible exact Nat.le_refl _ | (simp; done) | omega | (simp; omega) | exact Nat.le_refl _)))))
  have z7 : w6.heap.size + 0 ≤ w7.heap.size := by rw [hw7]; simp
  have e7 : Below w6.heap.size w6 w7 := by rw [hw7]; (repeat (first | with_reducible exact Below.refl _ _ | with_reducible assumption | with_reducible refine Below.drew ?_ | with_reducible refine bdrewN ?_ _ | ((with_reducible refine balloc ?_ ?_ _); (focus (first | with_reducible exact Nat.le_refl _ | (simp; done) | omega | (simp; omega) | exact Nat.le_refl _))) | ((with_reducible refine bset ?_ ?_ _); (focus (first | with_reducible exact Nat.le_refl _ | (simp; done) | omega | (simp; omega) | exact Nat.le_refl _)))))
  have cW07 := cell_keep e7 cW06
  have cW17 := cell_keep e7 cW16
  have cW27 := cell_keep e7 cW26
  have cW37 := cell_keep e7 cW36
  have cG07 := cell_keep e7 cG06
  have cG17 := cell_keep e7 cG16
  have cG27 := cell_keep e7 cG26
  have cG37 := cell_keep e7 cG36
  clear hw7 lcW06 lcG06 cW06 cW16 cW26 cW36 cG06 cG16 cG26 cG36
  refine (markSys_nil m FT _).mono ?_; rintro e w8 ⟨rfl, f8⟩
  have b8 := b7.trans (f8.mono (by omega))
  have z8 := f8.size
  have cW08 := cell_keep f8 cW07
  have cW18 := cell_keep f8 cW17
  have cW28 := cell_keep f8 cW27
  have cW38 := cell_keep f8 cW37
  have cG08 := cell_keep f8 cG07
  have cG18 := cell_keep f8 cG17
  have cG28 := cell_keep f8 cG27
  have cG38 := cell_keep f8 cG37
  clear cW07 cW17 cW27 cW37 cG07 cG17 cG27 cG37
  have lcW08 : w2.heap.size < w8.heap.size := World.block_lt_of_cell? _ _ cW08
  have lcG08 : w4.heap.size < w8.heap.size := World.block_lt_of_cell? _ _ cG08
  go_wp2_with fail
  refine name_call fun w9 hw9 => ?_
  have b9 : Below w.heap.size w w9 := by rw [hw9]; (repeat (first | with_reducible exact Below.refl _ _ | with_reducible assumption | with_reducible refine Below.drew ?_ | with_reducible refine bdrewN ?_ _ | ((with_reducible refine balloc ?_ ?_ _); (focus (first | with_reducible exact Nat.le_refl _ | (simp; done) | omega | (simp; omega) | exact Nat.le_refl _))) | ((with_reducible refine bset ?_ ?_ _); (focus (first | with_reducible exact Nat.le_refl _ | (simp; done) | omega | (simp; omega) | exact Nat.le_refl _)))))
  have z9 : w8.heap.size + 0 ≤ w9.heap.size := by rw [hw9]; simp
  have e9 : Below w8.heap.size w8 w9 := by rw [hw9]; (repeat (first | with_reducible exact Below.refl _ _ | with_reducible assumption | with_reducible refine Below.drew ?_ | with_reducible refine bdrewN ?_ _ | ((with_reducible refine balloc ?_ ?_ _); (focus (first | with_reducible exact Nat.le_refl _ | (simp; done) | omega | (simp; omega) | exact Nat.le_refl _))) | ((with_reducible refine bset ?_ ?_ _); (focus (first | with_reducible exact Nat.le_refl _ | (simp; done) | omega | (simp; omega) | exact Nat.le_refl _)))))
  have cW09 := cell_keep e9 cW08
  have cW19 := cell_keep e9 cW18
  have cW29 := cell_keep e9 cW28
  have cW39 := cell_keep e9 cW38
  have cG09 := cell_keep e9 cG08
  have cG19 := cell_keep e9 cG18
  have cG29 := cell_keep e9 cG28
  have cG39 := cell_keep e9 cG38
  clear hw9 lcW08 lcG08 cW08 cW18 cW28 cW38 cG08 cG18 cG28 cG38
  refine (heldSys_nil m 1 _ (by omega)).mono ?_; rintro e w10 ⟨rfl, f10⟩
  have b10 := b9.trans (f10.mono (by omega))
  have z10 := f10.size
  have cW010 := cell_keep f10 cW09
  have cW110 := cell_keep f10 cW19
  have cW210 := cell_keep f10 cW29
  have cW310 := cell_keep f10 cW39
  have cG010 := cell_keep f10 cG09
  have cG110 := cell_keep f10 cG19
  have cG210 := cell_keep f10 cG29
  have cG310 := cell_keep f10 cG39
  clear cW09 cW19 cW29 cW39 cG09 cG19 cG29 cG39
  have lcW010 : w2.heap.size < w10.heap.size := World.block_lt_of_cell? _ _ cW010
  have lcG010 : w4.heap.size < w10.heap.size := World.block_lt_of_cell? _ _ cG010
  go_wp2_with fail
  refine name_call fun w11 hw11 => ?_
  have b11 : Below w.heap.size w w11 := by rw [hw11]; (repeat (first | with_reducible exact Below.refl _ _ | with_reducible assumption | with_reducible refine Below.drew ?_ | with_reducible refine bdrewN ?_ _ | ((with_reducible refine balloc ?_ ?_ _); (focus (first | with_reducible exact Nat.le_refl _ | (simp; done) | omega | (simp; omega) | exact Nat.le_refl _))) | ((with_reducible refine bset ?_ ?_ _); (focus (first | with_reducible exact Nat.le_refl _ | (simp; done) | omega | (simp; omega) | exact Nat.le_refl _)))))
  have z11 : w10.heap.size + 0 ≤ w11.heap.size := by rw [hw11]; simp
  have e11 : Below w10.heap.size w10 w11 := by rw [hw11]; (repeat (first | with_reducible exact Below.refl _ _ | with_reducible assumption | with_reducible refine Below.drew ?_ | with_reducible refine bdrewN ?_ _ | ((with_reducible refine balloc ?_ ?_ _); (focus (first | with_reducible exact Nat.le_refl _ | (simp; done) | omega | (simp; omega) | exact Nat.le_refl _))) | ((with_reducible refine bset ?_ ?_ _); (focus (first | with_reducible exact Nat.le_refl _ | (simp; done) | omega | (simp; omega) | exact Nat.le_refl _)))))
  have cW011 := cell_keep e11 cW010
  have cW111 := cell_keep e11 cW110
  have cW211 := cell_keep e11 cW210
  have cW311 := cell_keep e11 cW310
  have cG011 := cell_keep e11 cG010
  have cG111 := cell_keep e11 cG110
  have cG211 := cell_keep e11 cG210
  have cG311 := cell_keep e11 cG310
  clear hw11 lcW010 lcG010 cW010 cW110 cW210 cW310 cG010 cG110 cG210 cG310
  refine (HI.out _ n0 n1).mono ?_; rintro e w12 ⟨rfl, f12⟩
  have b12 := b11.trans (f12.mono (by omega))
  have z12 := f12.size
  have cW012 := cell_keep f12 cW011
  have cW112 := cell_keep f12 cW111
  have cW212 := cell_keep f12 cW211
  have cW312 := cell_keep f12 cW311
  have cG012 := cell_keep f12 cG011
  have cG112 := cell_keep f12 cG111
  have cG212 := cell_keep f12 cG211
  have cG312 := cell_keep f12 cG311
  clear cW011 cW111 cW211 cW311 cG011 cG111 cG211 cG311
  have lcW012 : w2.heap.size < w12.heap.size := World.block_lt_of_cell? _ _ cW012
  have lcG012 : w4.heap.size < w12.heap.size := World.block_lt_of_cell? _ _ cG012
  go_wp2_with fail
  refine name_call fun w13 hw13 => ?_
  have b13 : Below w.heap.size w w13 := by rw [hw13]; (repeat (first | with_reducible exact Below.refl _ _ | with_reducible assumption | with_reducible refine Below.drew ?_ | with_reducible refine bdrewN ?_ _ | ((with_reducible refine balloc ?_ ?_ _); (focus (first | with_reducible exact Nat.le_refl _ | (simp; done) | omega | (simp; omega) | exact Nat.le_refl _))) | ((with_reducible refine bset ?_ ?_ _); (focus (first | with_reducible exact Nat.le_refl _ | (simp; done) | omega | (simp; omega) | exact Nat.le_refl _)))))
  have z13 : w12.heap.size + 1 ≤ w13.heap.size := by rw [hw13]; simp
  have e13 : Below w12.heap.size w12 w13 := by rw [hw13]; (repeat (first | with_reducible exact Below.refl _ _ | with_reducible assumption | with_reducible refine Below.drew ?_ | with_reducible refine bdrewN ?_ _ | ((with_reducible refine balloc ?_ ?_ _); (focus (first | with_reducible exact Nat.le_refl _ | (simp; done) | omega | (simp; omega) | exact Nat.le_refl _))) | ((with_reducible refine bset ?_ ?_ _); (focus (first | with_reducible exact Nat.le_refl _ | (simp; done) | omega | (simp; omega) | exact Nat.le_refl _)))))
  have cW013 := cell_keep e13 cW012
  have cW113 := cell_keep e13 cW112
  have cW213 := cell_keep e13 cW212
  have cW313 := cell_keep e13 cW312
  have cG013 := cell_keep e13 cG012
  have cG113 := cell_keep e13 cG112
  have cG213 := cell_keep e13 cG212
  have cG313 := cell_keep e13 cG312
  have cH013 : w13.cell? ⟨w12.heap.size, 0, none⟩ = some (.int .i64 m) := by rw [hw13]; first | (simp; done) | go_simp
  have cH113 : w13.cell? ⟨w12.heap.size, 1, none⟩ = some (.slice none 0 0) := by rw [hw13]; first | (simp; done) | go_simp
  have cH213 : w13.cell? ⟨w12.heap.size, 2, none⟩ = some (.slice none 0 0) := by rw [hw13]; first | (simp; done) | go_simp
  have cH313 : w13.cell? ⟨w12.heap.size, 3, none⟩ = some (.slice none 0 0) := by rw [hw13]; first | (simp; done) | go_simp
  clear hw13 lcW012 lcG012 cW012 cW112 cW212 cW312 cG012 cG112 cG212 cG312
  refine (eqSys_nil m FT _).mono ?_; rintro e w14 ⟨rfl, f14⟩
  have b14 := b13.trans (f14.mono (by omega))
  have z14 := f14.size
  have cW014 := cell_keep f14 cW013
  have cW114 := cell_keep f14 cW113
  have cW214 := cell_keep f14 cW213
  have cW314 := cell_keep f14 cW313
  have cG014 := cell_keep f14 cG013
  have cG114 := cell_keep f14 cG113
  have cG214 := cell_keep f14 cG213
  have cG314 := cell_keep f14 cG313
  have cH014 := cell_keep f14 cH013
  have cH114 := cell_keep f14 cH113
  have cH214 := cell_keep f14 cH213
  have cH314 := cell_keep f14 cH313
  clear cW013 cW113 cW213 cW313 cG013 cG113 cG213 cG313 cH013 cH113 cH213 cH313
  have lcW014 : w2.heap.size < w14.heap.size := World.block_lt_of_cell? _ _ cW014
  have lcG014 : w4.heap.size < w14.heap.size := World.block_lt_of_cell? _ _ cG014
  have lcH014 : w12.heap.size < w14.heap.size := World.block_lt_of_cell? _ _ cH014
  go_wp2_with fail
  refine name_call fun w15 hw15 => ?_
  have b15 : Below w.heap.size w w15 := by rw [hw15]; (repeat (first | with_reducible exact Below.refl _ _ | with_reducible assumption | with_reducible refine Below.drew ?_ | with_reducible refine bdrewN ?_ _ | ((with_reducible refine balloc ?_ ?_ _); (focus (first | with_reducible exact Nat.le_refl _ | (simp; done) | omega | (simp; omega) | exact Nat.le_refl _))) | ((with_reducible refine bset ?_ ?_ _); (focus (first | with_reducible exact Nat.le_refl _ | (simp; done) | omega | (simp; omega) | exact Nat.le_refl _)))))
  have z15 : w14.heap.size + 0 ≤ w15.heap.size := by rw [hw15]; simp
  have e15 : Below w14.heap.size w14 w15 := by rw [hw15]; (repeat (first | with_reducible exact Below.refl _ _ | with_reducible assumption | with_reducible refine Below.drew ?_ | with_reducible refine bdrewN ?_ _ | ((with_reducible refine balloc ?_ ?_ _); (focus (first | with_reducible exact Nat.le_refl _ | (simp; done) | omega | (simp; omega) | exact Nat.le_refl _))) | ((with_reducible refine bset ?_ ?_ _); (focus (first | with_reducible exact Nat.le_refl _ | (simp; done) | omega | (simp; omega) | exact Nat.le_refl _)))))
  have cW015 := cell_keep e15 cW014
  have cW115 := cell_keep e15 cW114
  have cW215 := cell_keep e15 cW214
  have cW315 := cell_keep e15 cW314
  have cG015 := cell_keep e15 cG014
  have cG115 := cell_keep e15 cG114
  have cG215 := cell_keep e15 cG214
  have cG315 := cell_keep e15 cG314
  have cH015 := cell_keep e15 cH014
  have cH115 := cell_keep e15 cH114
  have cH215 := cell_keep e15 cH214
  have cH315 := cell_keep e15 cH314
  clear hw15 lcW014 lcG014 lcH014 cW014 cW114 cW214 cW314 cG014 cG114 cG214 cG314 cH014 cH114 cH214 cH314
  refine (heldSys_nil m 1 _ (by omega)).mono ?_; rintro e w16 ⟨rfl, f16⟩
  have b16 := b15.trans (f16.mono (by omega))
  have z16 := f16.size
  have cW016 := cell_keep f16 cW015
  have cW116 := cell_keep f16 cW115
  have cW216 := cell_keep f16 cW215
  have cW316 := cell_keep f16 cW315
  have cG016 := cell_keep f16 cG015
  have cG116 := cell_keep f16 cG115
  have cG216 := cell_keep f16 cG215
  have cG316 := cell_keep f16 cG315
  have cH016 := cell_keep f16 cH015
  have cH116 := cell_keep f16 cH115
  have cH216 := cell_keep f16 cH215
  have cH316 := cell_keep f16 cH315
  clear cW015 cW115 cW215 cW315 cG015 cG115 cG215 cG315 cH015 cH115 cH215 cH315
  go_wp2_with fail
  go_ret
  exact ⟨rfl, b16⟩
end Go.Proofs.Ytaohghgdjnkgdaa.L
