/- A system whose inputs are some values, and its variables: laws.inputs. -/
import Derived.Test.YtcenijdaacbgpaaB7
import Derived.Test.YtcenijdaacbgpaaB2
import Derived.Test.YtcenijdaacbgpaaB12
import Derived.Test.YtcenijdaacbgpaaB5
import Derived.Test.YtcenijdaacbgpaaB20
namespace Go.Proofs.Ytcenijdaacbgpaa.L
open Go.RowKit Go.Proofs.Ytcenijdaacbgpaa.S
set_option linter.unusedVariables false
set_option linter.unusedSimpArgs false

theorem terms_read {o : Bool} {l h : Nat} {w : World} {v : Value} {ts : List T} (t : Terms o l h w v ts) : Terms false l h w v ts := by
  obtain ⟨a, cap, rfl, h1, h2, h3, h4⟩ := t
  refine ⟨a, cap, rfl, h1, h2, h3, ?_⟩
  rcases h4 with h4 | ⟨b, off, e, hl, hlt, hf, hc⟩
  · exact .inl h4
  · exact .inr ⟨b, off, e, hl, hlt, (fun q => by cases q), hc⟩
theorem lin_cells_new (w : World) (x : Value) (t : TypeId) : ∀ j u, [x][j]? = some u → (w.alloc (.cells #[x] t)).cell? ((⟨w.heap.size, 0, none⟩ : Addr).add j) = some u := cell_one_new' w x t
set_option maxRecDepth 100000 in
theorem lv_any (i : Int) (w : World) (f : Fits i) :
    Calls Try.prog 21 #[.int .i64 i] w fun e w' => ∃ u, e = .returned (.agg #[u]) ∧ Below w.heap.size w w' ∧ Terms true w.heap.size w'.heap.size w' u [(i, 1)] := by
  have h1 := fun o => Terms.one (w.alloc o) i 1 f (by unfold Fits; omega)
  simp only [World.size_alloc] at h1
  have H1 := Lib.hid h1
  clear h1
  go_enter Try.func21, Try.ntmps21
  go_wp2_with fail
  refine bodyPost_ret (v := .agg #[.slice (some ⟨w.heap.size + 1, 0, none⟩) 1 1]) (by simp [results, Try.results21, go_sem]) rfl ⟨_, rfl, by (repeat (with_reducible first | exact bR _ _ | assumption | refine bD ?_ | refine bN ?_ _ | refine bA ?_ _ | refine bS ?_ _)), ?_⟩
  exact (H1.out (.cells #[.slice (some ⟨w.heap.size + 1, 0, none⟩) 1 1] 39)).mono (by omega) (by simp)
/-- The first n inputs as combinations. -/
def varsL : Nat → List (List T)
  | 0 => []
  | n + 1 => varsL n ++ [[((n : Int) + 1, 1)]]
theorem varsL_len (n : Nat) : (varsL n).length = n := by
  induction n with
  | zero => rfl
  | succ n ih => simp [varsL, ih]
section
variable {P : Program} (w : World) {α : Type} {E : FShape α} {lo hi : Nat}
theorem wpList_append_I {ops : Array Oper} {rest : List Oper} {op : Oper} {a : Act} {Q : Exit → Act → World → Prop} (hgd : op.guard = none) (s x : Operand) (t : TypeId)
    (ho : op.op = .call { callee := .builtin .append, args := #[s, x], argTypes := #[t, t] })
    (e : TypeId) (i : TypeInfo) (z : Value) (bytes : Nat) (ht : P.underlying t = some (.slice e)) (hi0 : P.info? e = some i) (hz : i.zero = some z)
    (hsize : i.size = E.wd) (hby : i.bytes = bytes) (hzs : z.cells.size = E.wd) (hsz : 0 < E.wd)
    (v : Value) (xs : List α) (n : Nat) (hn : xs.length = n) (hs : a.eval s = v) (g : GrI E e lo hi w v xs) (cs : List Value) (y : α) (l' h' : Nat) (hrep : E.rep true (fun k => l' ≤ k ∧ k < h') w cs y) (B : Nat) (fr : Nat × Nat) (hx : a.eval x = .slice (some ⟨B, 0, none⟩) 1 1) (hB : w.heap[B]? = some (.cells cs.toArray e fr))
    (q1 : lo ≤ hi) (q2 : hi ≤ l') (q3 : h' ≤ w.heap.size) (q4 : hi ≤ w.heap.size)
    (h63 : n + 1 ≤ 1000000000) (hbytes : (n + 1) * bytes ≤ 140737488355328)
    (h : ∀ g' cap' w', GrI E e lo w'.heap.size w' (.slice (some ⟨g', 0, none⟩) (n + 1) cap') (xs ++ [y]) ∧ Only lo hi w w' ∧ n + 1 ≤ cap' → wpList P ops Q rest (a.put op.dst (.slice (some ⟨g', 0, none⟩) (n + 1) cap')) w') :
    wpList P ops Q (op :: rest) a w := by
  subst hn
  obtain ⟨R, F, g, h1, h2, h3⟩ := g
  refine wpList_append_growF w hgd s x t ho e i z bytes ht hi0 hz hsize hby hzs hsz v xs hs g cs y _ hrep B fr hx hB h3 (fun k hk => ?_) (fun k hk => ⟨by omega, fun q => by have := h1 k q; omega⟩) (fun _ k hk hG => by have := h2 k hk; omega) h63 hbytes (by omega) (fun g' cap' w' hh => h g' cap' w' ?_)
  · rcases hk with q | q
    · have := h1 k q; omega
    · have := h2 k q; omega
  · have hsz' := hh.1.2.size
    refine ⟨⟨_, _, hh.1.1, fun k hk => ?_, fun k hk => ?_, fun k hk hF => ?_⟩, hh.1.2.only h1, hh.2⟩
    · rcases hk with q | q
      · have := h1 k q; omega
      · have := q.1; have := q.2; omega
    · rcases hk with q | q
      · have := h2 k q; omega
      · omega
    · rcases hk with q | q
      · rcases hF with r | r
        · exact h3 k q r
        · have := h1 k q; omega
      · have := q.1
        rcases hF with r | r
        · have := h2 k r; omega
        · omega
end
set_option maxRecDepth 100000 in
set_option maxHeartbeats 3200000 in
theorem inputs_any (lim : Nat) (v : Value) (xs : List Int) (w : World) (t : Ints lim w v xs) (hl : lim ≤ w.heap.size) (hn : xs.length ≤ 100) :
    Calls Try.prog 9 #[v] w fun e w' => ∃ u, e = .returned (.tuple #[.agg #[.int .i64 (xs.length : Nat), .slice none 0 0, .slice none 0 0, .slice none 0 0], u]) ∧ Below w.heap.size w w' ∧ LinS false 0 w'.heap.size w' u (varsL xs.length) := by
  obtain ⟨a, ca, rfl, la, ba⟩ := t.shape
  obtain ⟨i0, hi0, hz0, hz1, hz2⟩ := info_parts linInfo
  go_enter Try.func9, Try.ntmps9
  go_wp2_with fail
  go_loopw [5, 6] (fun v i wr => ∃ k : Nat, k ≤ xs.length ∧ i = .int .i64 k ∧ Below w.heap.size w wr ∧ w.heap.size + 2 ≤ wr.heap.size ∧ wr.cell? ⟨w.heap.size + 1, 0, none⟩ = some (.int .i64 (xs.length : Nat)) ∧ wr.cell? ⟨w.heap.size + 1, 1, none⟩ = some (.slice none 0 0) ∧ wr.cell? ⟨w.heap.size + 1, 2, none⟩ = some (.slice none 0 0) ∧ wr.cell? ⟨w.heap.size + 1, 3, none⟩ = some (.slice none 0 0) ∧ Free4 wr w.heap.size ∧ Box4 wr w.heap.size (.int .i64 0) (.slice none 0 0) (.slice none 0 0) (.slice none 0 0) ∧ GrI FShape.lin 39 (w.heap.size + 2) wr.heap.size wr v (varsL k)) (fun _ i _ => xs.length - (intOf i).toNat)
  case atStart => exact ⟨0, Nat.zero_le _, rfl, by (repeat (with_reducible first | exact bR _ _ | assumption | refine bD ?_ | refine bN ?_ _ | refine bA ?_ _ | refine bS ?_ _)), by simp, by first | (simp; done) | go_simp, by first | (simp; done) | go_simp, by first | (simp; done) | go_simp, by first | (simp; done) | go_simp, ⟨by first | (simp; done) | go_simp, by first | (simp; done) | go_simp, by first | (simp; done) | go_simp, by first | (simp; done) | go_simp⟩, ⟨by first | (simp; done) | go_simp, by first | (simp; done) | go_simp, by first | (simp; done) | go_simp, by first | (simp; done) | go_simp⟩, GrI.nil⟩
  case round =>
    obtain ⟨k, hk, rfl, be, zz, cI, cO, cH, cC, FR, BR, G⟩ := hrel
    have zw : w.heap.size + 1 < wr.heap.size := by omega
    have zb : w.heap.size ≤ wr.heap.size := by omega
    by_cases hlt : k < xs.length
    · have hw1 : IntKind.i64.wrap (1 + (k : Int)) = 1 + (k : Int) := IntWalk.i64_in _ (by omega)
      obtain ⟨q, hq⟩ : ∃ q : Int, q = 1 + (k : Int) := ⟨_, rfl⟩
      have LV := lv_any q
      go_wp2_with fail
      rw [← hq]
      refine (LV _ (by unfold Fits; omega)).mono ?_; rintro e w2 ⟨u2, rfl, f2, t2⟩
      have z2 := f2.size
      obtain ⟨ua, uc, rfl, ul, ub⟩ := t2.shape
      have G2 := (G.keep f2 (Nat.le_refl _))
      have dI := ck f2 cI
      have dO := ck f2 cO
      have dH := ck f2 cH
      have dC := ck f2 cC
      have be2 := be.trans (f2.mono zb)
      have HL := varsL_len k
      have HT : Hid (varsL (k + 1) = varsL k ++ [[(q, 1)]]) := Lib.hid (by rw [hq, show 1 + (k : Int) = (k : Int) + 1 from by omega]; rfl)
      have Ta := t2.keep (B := w2.heap.size) (balloc (w := w2) (by omega) (Below.refl _ _) (.cells #[.slice ua 1 uc] 39)) (Nat.le_refl _)
      have GA := G2.keep (balloc (w := w2) (B := wr.heap.size) (by omega) (Below.refl _ _) (.cells #[.slice ua 1 uc] 39)) (Nat.le_refl _)
      have zb2 : w.heap.size + 2 ≤ w2.heap.size := by omega
      clear G G2 t2 cI cO cH cC
      have HLh := Lib.hid HL
      clear HL
      go_wp2_with (at_builtin; refine wpList_append_I (w2.alloc (.cells #[.slice ua 1 uc] 39)) rfl _ _ 28 rfl 39 i0 (.agg #[.slice none 0 0]) 24 Try.underlying28 hi0 hz0 hz1 hz2 rfl (by decide) _ (varsL k) k HLh.out rfl GA [.slice ua 1 uc] [(q, 1)] wr.heap.size w2.heap.size ⟨_, rfl, _, _, fun q i j => ⟨by omega, by omega⟩, Ta⟩ w2.heap.size (0, 0) rfl (heap_alloc_new w2 _) (by omega) (by omega) (by simp) (by simp; omega) (by omega) (by omega) ?_; rintro g cap y1 ⟨Gn, on1, lc1⟩)
      have eB : Below (w.heap.size + 2) (w2.alloc (.cells #[.slice ua 1 uc] 39)) y1 := on1.below (Nat.le_refl _) (by simp; omega)
      have zy := on1.size
      simp only [World.size_alloc] at zy
      have b3 : Below w.heap.size w (w2.alloc (.cells #[.slice ua 1 uc] 39)) := be2.alloc (by omega) _
      have b5 := b3.trans (eB.mono (by omega))
      have kI := (eB.cell (p := ⟨w.heap.size + 1, 0, none⟩) (Nat.lt_succ_self _)).trans (alloc_keep dI)
      have kO := (eB.cell (p := ⟨w.heap.size + 1, 1, none⟩) (Nat.lt_succ_self _)).trans (alloc_keep dO)
      have kH := (eB.cell (p := ⟨w.heap.size + 1, 2, none⟩) (Nat.lt_succ_self _)).trans (alloc_keep dH)
      have kC := (eB.cell (p := ⟨w.heap.size + 1, 3, none⟩) (Nat.lt_succ_self _)).trans (alloc_keep dC)
      have eA : Below (w.heap.size + 2) wr y1 := (balloc (by omega) (f2.mono (by omega)) _).trans eB
      have FR' := FR.keep eA (by omega)
      have BR' := BR.keep eA (by omega)
      go_roundw
      case rel => exact ⟨k + 1, by omega, by go_num, b5, by omega, kI, kO, kH, kC, FR', BR', by rw [HT.out]; exact Gn⟩
      case measure => simp [intOf]; omega
    · obtain rfl : k = xs.length := by omega
      obtain ⟨R, F, gg, -, -, -⟩ := id G
      have LS : LinS false 0 wr.heap.size wr _ (varsL xs.length) := gg.read
      obtain ⟨ra, rc, rfl, rl, rb⟩ := LS.shape
      obtain ⟨f0, f1, f2, f3⟩ := FR
      obtain ⟨q0, q1, q2, q3⟩ := BR.copied (.int .i64 (xs.length : Nat)) (.slice none 0 0) (.slice none 0 0) (.slice none 0 0)
      obtain ⟨r0, r1, r2, r3⟩ := BR
      have T7 := (GrI.rowF G (Nat.le_refl _)).agree (sameF_sets (b := w.heap.size) wr (.int .i64 (xs.length : Nat)) (.slice none 0 0) (.slice none 0 0) (.slice none 0 0) (fun q => by omega)) (by simp)
      have LS2 : LinS false 0 _ _ (.slice ra (varsL xs.length).length rc) (varsL xs.length) := T7.read
      have HL := Lib.hid LS2
      clear LS LS2 G gg
      go_wp2_with fail
      generalize hY : World.setCell _ ⟨w.heap.size, 3, none⟩ _ = Y at *
      have bY : Below w.heap.size w Y := by rw [← hY]; (repeat (with_reducible first | exact bR _ _ | assumption | refine bD ?_ | refine bN ?_ _ | refine bA ?_ _ | refine bS ?_ _))
      exact bodyPost_ret (v := .tuple #[.agg #[.int .i64 (xs.length : Nat), .slice none 0 0, .slice none 0 0, .slice none 0 0], .slice ra (varsL xs.length).length rc]) (by simp [results, Try.results9, go_sem, q0, q1, q2, q3]) rfl ⟨_, rfl, bY, HL.out⟩
end Go.Proofs.Ytcenijdaacbgpaa.L
