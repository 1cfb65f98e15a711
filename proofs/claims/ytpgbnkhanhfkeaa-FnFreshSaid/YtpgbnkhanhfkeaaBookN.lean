/-
  Chapter 8: a valid book's indices and times; it stays valid where an entry is appended that may come next.
-/
import Derived.Test.YtpgbnkhanhfkeaaBookM
namespace Go.Proofs.Ytpgbnkhanhfkeaa
set_option maxRecDepth 100000
open Go.RowKit

theorem getD_left {l r : List EntM} {j : Nat} (h : j < l.length) : (l ++ r).getD j ent0 = l.getD j ent0 := by
  rw [List.getD_eq_getElem?_getD, List.getElem?_append_left h, ← List.getD_eq_getElem?_getD]
theorem getD_last (l : List EntM) (e : EntM) : (l ++ [e]).getD l.length ent0 = e := by
  rw [List.getD_eq_getElem?_getD, List.getElem?_append_right (Nat.le_refl _), Nat.sub_self]
  rfl
theorem entsB_all {l : List EntM} (h : entsB l = true) {j : Nat} (hj : j < l.length) : entB l[j] = true ∧ nextAt l j = true := by
  have h1 := ((entsB_iff l).1 h).2 j hj
  rw [entsAt_eq hj, Bool.and_eq_true] at h1
  exact h1
theorem entsB_snoc {l : List EntM} {e : EntM} (h : entsB l = true) (hl : l.length < 2000) (he : entB e = true) (hn : l.length = 0 ∨ (e.idx = (l.getD (l.length - 1) ent0).idx + 1 ∧ (l.getD (l.length - 1) ent0).tm ≤ e.tm)) : entsB (l ++ [e]) = true := by
  rw [entsB_iff]
  refine ⟨by rw [List.length_append, List.length_singleton]; omega, fun j hj => ?_⟩
  rw [List.length_append, List.length_singleton] at hj
  by_cases h1 : j < l.length
  · have h2 := ((entsB_iff l).1 h).2 j h1
    unfold entsAt nextAt at h2 ⊢
    rw [getD_left h1, getD_left (show j - 1 < l.length by omega)]
    exact h2
  · obtain rfl : j = l.length := by omega
    unfold entsAt nextAt
    rw [getD_last, he, Bool.true_and]
    rcases hn with h0 | ⟨h2, h3⟩
    · rw [decide_eq_true h0, Bool.true_or]
    · by_cases h0 : l.length = 0
      · rw [decide_eq_true h0, Bool.true_or]
      · rw [getD_left (show l.length - 1 < l.length by omega), decide_eq_true h2, decide_eq_true h3]
        simp
theorem book_idx {b : BookM} (h : bookB b = true) : ∀ j (hj : j < b.ents.length), b.ents[j].idx = b.base + 1 + (j : Int) := by
  obtain ⟨_, _, _, _, he, hh⟩ := (bookB_iff b).1 h
  intro j
  induction j with
  | zero =>
    intro hj
    unfold headB at hh
    rw [decide_eq_false (show ¬ b.ents.length = 0 by omega), Bool.false_or, Bool.and_eq_true, decide_eq_true_eq, egetD hj] at hh
    rw [hh.1]
    simp
  | succ k ih =>
    intro hj
    have h1 := (entsB_all he hj).2
    rw [nextAt_succ hj, Bool.and_eq_true, decide_eq_true_eq] at h1
    rw [h1.1, ih (by omega)]
    omega
theorem book_next_tm {b : BookM} (h : bookB b = true) {k : Nat} (hk : k + 1 < b.ents.length) : b.ents[k].tm ≤ b.ents[k + 1].tm := by
  obtain ⟨_, _, _, _, he, _⟩ := (bookB_iff b).1 h
  have h1 := (entsB_all he hk).2
  rw [nextAt_succ hk, Bool.and_eq_true, decide_eq_true_eq, decide_eq_true_eq] at h1
  exact h1.2
theorem book_head_tm {b : BookM} (h : bookB b = true) (h0 : 0 < b.ents.length) : b.tm ≤ b.ents[0].tm := by
  obtain ⟨_, _, _, _, _, hh⟩ := (bookB_iff b).1 h
  unfold headB at hh
  rw [decide_eq_false (show ¬ b.ents.length = 0 by omega), Bool.false_or, Bool.and_eq_true, decide_eq_true_eq, decide_eq_true_eq, egetD h0] at hh
  exact hh.2
theorem timeAt_last {b : BookM} (h0 : 0 < b.ents.length) : timeAt b (lastB b) = (b.ents.getD (b.ents.length - 1) ent0).tm := by
  have h1 : b.ents.length - 1 < b.ents.length := by omega
  rw [egetD h1, ← timeAt_in h1]
  congr 1
  unfold lastB
  omega
theorem timeAt_none {b : BookM} (h0 : b.ents.length = 0) : timeAt b (lastB b) = b.tm := by
  rw [show lastB b = b.base by unfold lastB; omega, timeAt_base]
theorem nextB_iff (b : BookM) (e : EntM) : nextB b e = true ↔ entB e = true ∧ e.idx = lastB b + 1 ∧ timeAt b (lastB b) ≤ e.tm ∧ b.ents.length ≠ 20 := by
  unfold nextB
  simp only [Bool.and_eq_true, decide_eq_true_eq]
theorem bookB_more {b : BookM} {e : EntM} (h : bookB b = true) (hn : nextB b e = true) : bookB (more b [e]) = true := by
  obtain ⟨h1, h2, h3, h4, h5, h6⟩ := (bookB_iff b).1 h
  obtain ⟨n1, n2, n3, n4⟩ := (nextB_iff b e).1 hn
  rw [bookB_iff]
  refine ⟨h1, h2, h3, by show (b.ents ++ [e]).length ≤ 20; rw [List.length_append, List.length_singleton]; omega, entsB_snoc h5 (by omega) n1 ?_, ?_⟩
  · by_cases h0 : b.ents.length = 0
    · exact .inl h0
    · refine .inr ⟨?_, ?_⟩
      · rw [egetD (show b.ents.length - 1 < b.ents.length by omega), book_idx h, n2]
        unfold lastB
        omega
      · rw [← timeAt_last (by omega)]
        exact n3
  · unfold headB
    show (decide ((b.ents ++ [e]).length = 0) || (decide (((b.ents ++ [e]).getD 0 ent0).idx = b.base + 1) && decide (b.tm ≤ ((b.ents ++ [e]).getD 0 ent0).tm))) = true
    by_cases h0 : b.ents.length = 0
    · have e1 : b.ents = [] := List.eq_nil_of_length_eq_zero h0
      rw [e1]
      have n5 := timeAt_none h0
      rw [n5] at n3
      have n6 : e.idx = b.base + 1 := by rw [n2]; unfold lastB; omega
      simp [n6, n3]
    · rw [getD_left (by omega)]
      unfold headB at h6
      rw [decide_eq_false h0, Bool.false_or] at h6
      rw [h6, Bool.or_true]
theorem grown_ok {b : BookM} {l : List EntM} (h : bookB b = true) : ∀ j, j ≤ l.length → (∀ q, q < j → growAt b l q = true) → bookB (more b (l.take j)) = true := by
  intro j
  induction j with
  | zero =>
    intro _ _
    rw [List.take_zero, more_nil]
    exact h
  | succ k ih =>
    intro hk hall
    have h1 := ih (by omega) fun q hq => hall q (by omega)
    have h2 := hall k (by omega)
    unfold growAt at h2
    rw [egetD (show k < l.length by omega)] at h2
    rw [← more_take (show k < l.length by omega)]
    exact bookB_more h1 h2
theorem app_more {b : BookM} {l : List EntM} {j : Nat} (hok : bookB (more b (l.take j)) = true) (hj : j < l.length) : appM (more b (l.take j)) l[j] = if growAt b l j = true then (more b (l.take (j + 1)), true) else (more b (l.take j), false) := by
  unfold appM growAt
  rw [if_pos hok, egetD hj, more_take hj]

end Go.Proofs.Ytpgbnkhanhfkeaa
