/- The factors of a sum of many. -/
import Derived.Test.YtoeklalhbkdjnaaLSum2
import Derived.Test.YtoeklalhbkdjnaaLinV
namespace Go.Proofs.Ytoeklalhbkdjnaa.L
open Go.RowKit Go.Shelf Go.Proofs.Ytoeklalhbkdjnaa.S
set_option linter.unusedVariables false
set_option linter.unusedSimpArgs false

def ind (v : Nat) : List Int := List.replicate v 0 ++ [1]
theorem ind_get (v n : Nat) : (ind v)[n]?.getD 0 = if n = v then 1 else 0 := by
  unfold ind
  by_cases h : n < v
  · rw [List.getElem?_append_left (by simpa using h), List.getElem?_replicate, if_pos h, if_neg (by omega)]; rfl
  · rw [List.getElem?_append_right (by simp; omega), List.length_replicate]
    by_cases e : n = v
    · subst e; rw [if_pos rfl, Nat.sub_self]; rfl
    · rw [if_neg e, List.getElem?_eq_none (by simp; omega)]; rfl
theorem sv_ind {v : Nat} : ∀ {ts : List T} {p : Int}, -1 ≤ p → okFrom p ts = true → sv (ind v) ts = coeffOf v ts
  | [], _, _, _ => rfl
  | t :: r, p, hp, h => by
    obtain ⟨⟨h0, h1, h2, h3⟩, h4⟩ := okFrom_cons h
    have ih := sv_ind (v := v) (by omega) h4
    rw [sv_cons, ih]
    unfold term
    rw [ind_get]
    simp only [coeffOf]
    by_cases e : t.1 = v
    · rw [if_pos (by omega), if_pos e, coeffOf_none h4 (by omega)]; omega
    · rw [if_neg (by omega), if_neg e]; omega
theorem coeffOf_bd {v : Int} : ∀ {ts : List T} {p : Int}, okFrom p ts = true → 0 ≤ coeffOf v ts ∧ coeffOf v ts < 2147483647
  | [], _, _ => by simp [coeffOf]
  | t :: r, p, h => by
    obtain ⟨⟨h0, h1, h2, h3⟩, h4⟩ := okFrom_cons h
    simp only [coeffOf]
    split
    · omega
    · exact coeffOf_bd h4
theorem coeffOf_mrg {as' bs : List T} (v : Int) (ha : linOk as' = true) (hb : linOk bs = true) : coeffOf v (mrg 1 as' bs) = (coeffOf v as' + coeffOf v bs) % 2147483647 := by
  have hm : linOk (mrg 1 as' bs) = true := linOk_mrg ha hb
  by_cases hv : 0 ≤ v
  · obtain ⟨n, rfl⟩ := Int.eq_ofNat_of_zero_le hv
    have h := sv_mrg (ind n) 1 as' bs
    rw [sv_ind (by omega) (show okFrom (-1) _ = true from hm), sv_ind (by omega) (show okFrom (-1) _ = true from ha), sv_ind (by omega) (show okFrom (-1) _ = true from hb)] at h
    have b1 := coeffOf_bd (v := (n : Int)) (show okFrom (-1) _ = true from hm)
    omega
  · rw [coeffOf_none (show okFrom (-1) _ = true from hm) (by omega), coeffOf_none (show okFrom (-1) _ = true from ha) (by omega), coeffOf_none (show okFrom (-1) _ = true from hb) (by omega)]
    rfl
theorem mrg_right_nil : ∀ {ts : List T} {p : Int}, okFrom p ts = true → mrg 1 ts [] = ts
  | [], _, _ => mrg_nil 1
  | t :: r, p, h => by
    obtain ⟨⟨h0, h1, h2, h3⟩, h4⟩ := okFrom_cons h
    rw [mrg_a, mrg_right_nil h4]
    unfold kp
    rw [if_neg (by omega)]
def kfold (v k : Int) (ls : List (List T)) : Int := ls.foldl (fun k l => (k + coeffOf v l) % 2147483647) k
theorem lok_and {as' bs : List T} (h : lok as' bs = true) : linOk as' = true ∧ linOk bs = true := by unfold lok at h; simpa using h
/-- What a sum of many says of its parts. -/
theorem lsum_facts : ∀ (ls : List (List T)) (acc : List T), linOk acc = true → (lsum acc ls).2 = true →
    linOk (lsum acc ls).1 = true ∧ (∀ l ∈ ls, linOk l = true) ∧ (∀ v, coeffOf v (lsum acc ls).1 = kfold v (coeffOf v acc) ls) ∧ lsum acc (ls ++ [[]]) = lsum acc ls
  | [], acc, ha, _ => by
    refine ⟨ha, by simp, fun v => rfl, ?_⟩
    have hl : lok acc [] = true := by unfold lok; rw [ha]; rfl
    show (if lok acc [] = true then lsum (lcomb 1 acc []) [] else ([], false)) = _
    rw [if_pos hl]
    show (lcomb 1 acc [], true) = (acc, true)
    rw [(lcomb_yes ha (show linOk [] = true from rfl)).1, mrg_right_nil (show okFrom (-1) acc = true from ha)]
  | a :: r, acc, ha, h => by
    cases hl : lok acc a with
    | false => simp [lsum, hl] at h
    | true =>
      have e : lsum acc (a :: r) = lsum (lcomb 1 acc a) r := by simp [lsum, hl]
      have e2 : lsum acc ((a :: r) ++ [[]]) = lsum (lcomb 1 acc a) (r ++ [[]]) := by simp [lsum, hl]
      obtain ⟨h1, h2⟩ := lok_and hl
      have hc : lcomb 1 acc a = mrg 1 acc a := (lcomb_yes h1 h2).1
      rw [e] at h
      have ih := lsum_facts r (lcomb 1 acc a) (by rw [hc]; exact linOk_mrg h1 h2) h
      rw [e, e2]
      refine ⟨ih.1, fun l hl => ?_, fun v => ?_, ih.2.2.2⟩
      · rcases List.mem_cons.1 hl with rfl | hl
        · exact h2
        · exact ih.2.1 l hl
      · rw [ih.2.2.1 v, hc, coeffOf_mrg v h1 h2]
        rfl
theorem kfold_step {v : Int} {ls : List (List T)} {j : Nat} (hj : j < ls.length) : kfold v 0 (ls.take (j + 1)) = (kfold v 0 (ls.take j) + coeffOf v ls[j]) % 2147483647 := by
  rw [List.take_succ_eq_append_getElem hj]
  unfold kfold
  rw [List.foldl_append]
  rfl
theorem kfold_bd (v : Int) (ls : List (List T)) : 0 ≤ kfold v 0 ls ∧ kfold v 0 ls < 2147483647 := by
  unfold kfold
  suffices h : ∀ (ls : List (List T)) (k : Int), 0 ≤ k ∧ k < 2147483647 → 0 ≤ ls.foldl (fun k l => (k + coeffOf v l) % 2147483647) k ∧ ls.foldl (fun k l => (k + coeffOf v l) % 2147483647) k < 2147483647 from h ls 0 (by omega)
  intro ls
  induction ls with
  | nil => intro k h; exact h
  | cons l r ih => intro k h; exact ih ((k + coeffOf v l) % 2147483647) (by omega)
theorem sumL_facts {ls : List (List T)} (hn : ls.length ≤ 40) (h : (sumL ls).2 = true) :
    linOk (sumL ls).1 = true ∧ (∀ l ∈ ls, linOk l = true) ∧ (∀ v, coeffOf v (sumL ls).1 = kfold v 0 ls) ∧ sumL (ls ++ [[]]) = sumL ls := by
  have e : sumL ls = lsum [] ls := if_neg (by omega)
  have e2 : sumL (ls ++ [[]]) = lsum [] (ls ++ [[]]) := if_neg (by simp; omega)
  rw [e] at h
  rw [e, e2]
  exact lsum_facts ls [] rfl h
theorem sumL_no {ls : List (List T)} (h : (sumL ls).2 = false) : (sumL ls).1 = [] := by
  unfold sumL at h ⊢
  split
  · rfl
  · next hn =>
    rw [if_neg hn] at h
    revert h
    suffices q : ∀ (ls : List (List T)) (acc : List T), (lsum acc ls).2 = false → (lsum acc ls).1 = [] from q ls []
    intro ls
    induction ls with
    | nil => intro acc h; cases h
    | cons l r ih =>
      intro acc h
      rw [lsum] at h ⊢
      split
      · next q => rw [if_pos q] at h; exact ih _ h
      · rfl
end Go.Proofs.Ytoeklalhbkdjnaa.L
