/-
  Books trimmed and taken back as a mathematics: a trimmed book is valid, has the same last index, the same times and the same entries behind the index.
-/
import Derived.Test.YtjbhldfkkmkilaaBookV
namespace Go.Proofs.Ytjbhldfkkmkilaa
set_option maxRecDepth 100000
open Go.RowKit

/-- The book of l without its first k entries. -/
def cutB (l : List EntM) (k : Nat) : BookM := ⟨(k : Int), timeAt ⟨0, 0, l⟩ (k : Int), l.drop k⟩
theorem cutB_zero (l : List EntM) : cutB l 0 = ⟨0, 0, l⟩ := by
  unfold cutB
  rw [List.drop_zero]
  congr 1
theorem cutB_last (l : List EntM) {k : Nat} (hk : k ≤ l.length) : lastB (cutB l k) = (l.length : Int) := by
  unfold lastB cutB
  show (k : Int) + ((l.drop k).length : Int) = _
  rw [List.length_drop]
  omega
theorem timeAt_run (l : List EntM) {j : Nat} (hj : j < l.length) : timeAt ⟨0, 0, l⟩ ((j : Int) + 1) = l[j].tm := by
  have := timeAt_in (b := ⟨0, 0, l⟩) (j := j) hj
  rw [show (⟨0, 0, l⟩ : BookM).base + 1 + (j : Int) = (j : Int) + 1 by show (0 : Int) + 1 + (j : Int) = _; omega] at this
  exact this
theorem cutB_time (l : List EntM) {k i : Nat} (hk : k ≤ i) (hi : i ≤ l.length) : timeAt (cutB l k) (i : Int) = timeAt ⟨0, 0, l⟩ (i : Int) := by
  by_cases e : i = k
  · subst e
    exact if_pos rfl
  · obtain ⟨j, rfl⟩ : ∃ j, i = k + 1 + j := ⟨i - k - 1, by omega⟩
    have h1 : j < (cutB l k).ents.length := by show j < (l.drop k).length; rw [List.length_drop]; omega
    have h2 := timeAt_in (b := cutB l k) h1
    rw [show (cutB l k).base + 1 + (j : Int) = ((k + 1 + j : Nat) : Int) by show (k : Int) + 1 + (j : Int) = _; omega] at h2
    rw [h2, show ((k + 1 + j : Nat) : Int) = ((k + j : Nat) : Int) + 1 by omega, timeAt_run l (show k + j < l.length by omega)]
    show ((l.drop k)[j]'(by rw [List.length_drop]; omega)).tm = _
    rw [List.getElem_drop]
theorem cutB_book {l : List EntM} (h : RunL l) (hl : l.length ≤ 20) {k : Nat} (hk : k ≤ l.length) : bookB (cutB l k) = true := by
  rw [bookB_iff]
  have ht : 0 ≤ timeAt ⟨0, 0, l⟩ (k : Int) ∧ timeAt ⟨0, 0, l⟩ (k : Int) ≤ 1000000 := by
    rcases Nat.eq_zero_or_pos k with e | e
    · subst e
      show 0 ≤ timeAt ⟨0, 0, l⟩ 0 ∧ timeAt ⟨0, 0, l⟩ 0 ≤ 1000000
      rw [show timeAt ⟨0, 0, l⟩ (0 : Int) = 0 from if_pos rfl]
      omega
    · obtain ⟨j, rfl⟩ : ∃ j, k = j + 1 := ⟨k - 1, by omega⟩
      rw [show ((j + 1 : Nat) : Int) = (j : Int) + 1 by omega, timeAt_run l (by omega)]
      exact ((entB_iff _).1 (h j (by omega)).1).2.1
  have hent : entsB (l.drop k) = true := by
    rw [entsB_iff]
    refine ⟨by rw [List.length_drop]; omega, fun j hj => ?_⟩
    have hj2 : j < l.length - k := by rwa [List.length_drop] at hj
    rw [entsAt_eq hj, List.getElem_drop, (h (k + j) (by omega)).1, Bool.true_and]
    cases j with
    | zero => rfl
    | succ q =>
      rw [nextAt_succ hj, List.getElem_drop, List.getElem_drop, (h (k + (q + 1)) (by omega)).2.1, (h (k + q) (by omega)).2.1, decide_eq_true ((h (k + (q + 1)) (by omega)).2.2 (k + q) (by omega)), decide_eq_true (by omega)]
      rfl
  refine ⟨by show 0 ≤ (k : Int) ∧ (k : Int) ≤ 2000; omega, ht, ?_, by show (l.drop k).length ≤ 20; rw [List.length_drop]; omega, hent, ?_⟩
  · rcases Nat.eq_zero_or_pos k with e | e
    · subst e
      refine .inr ?_
      show timeAt ⟨0, 0, l⟩ ((0 : Nat) : Int) = 0
      exact if_pos rfl
    · exact .inl (by show (k : Int) ≠ 0; omega)
  · unfold headB cutB
    show (decide ((l.drop k).length = 0) || (decide (((l.drop k).getD 0 ent0).idx = (k : Int) + 1) && decide (timeAt ⟨0, 0, l⟩ (k : Int) ≤ ((l.drop k).getD 0 ent0).tm))) = true
    by_cases h0 : k = l.length
    · rw [decide_eq_true (show (l.drop k).length = 0 by rw [List.length_drop]; omega), Bool.true_or]
    · have h1 : 0 < (l.drop k).length := by rw [List.length_drop]; omega
      rw [egetD h1, List.getElem_drop, decide_eq_true (show (l[k + 0]'(by omega)).idx = (k : Int) + 1 by rw [(h (k + 0) (by omega)).2.1]; rfl)]
      have h2 : timeAt ⟨0, 0, l⟩ (k : Int) ≤ (l[k + 0]'(by omega)).tm := by
        rcases Nat.eq_zero_or_pos k with e | e
        · subst e
          show timeAt ⟨0, 0, l⟩ 0 ≤ _
          rw [show timeAt ⟨0, 0, l⟩ (0 : Int) = 0 from if_pos rfl]
          exact (h.ent (by omega)).2.2
        · obtain ⟨j, rfl⟩ : ∃ j, k = j + 1 := ⟨k - 1, by omega⟩
          rw [show ((j + 1 : Nat) : Int) = (j : Int) + 1 by omega, timeAt_run l (by omega)]
          exact (h (j + 1 + 0) (by omega)).2.2 j (by omega)
      rw [decide_eq_true h2]
      simp
theorem trim_run {l : List EntM} (h : RunL l) (hl : l.length ≤ 20) {k m : Nat} (hk : k ≤ m) (hm : m ≤ l.length) : trimM (cutB l k) (m : Int) = (cutB l m, true) := by
  unfold trimM
  rw [if_pos (cutB_book h hl (show k ≤ l.length by omega)), if_pos]
  · show ((⟨(m : Int), timeAt (cutB l k) (m : Int), (l.drop k).drop ((m : Int) - (k : Int)).toNat⟩ : BookM), true) = (cutB l m, true)
    rw [cutB_time l hk hm, List.drop_drop, show k + ((m : Int) - (k : Int)).toNat = m by omega]
    rfl
  · unfold inBook
    rw [inB_iff, cutB_last l (show k ≤ l.length by omega)]
    show (k : Int) ≤ (m : Int) ∧ (m : Int) ≤ (l.length : Int)
    omega
theorem trim_back {l : List EntM} (h : RunL l) (hl : l.length ≤ 20) {m : Nat} (hm : m ≤ l.length) : trimM (cutB l m) ((m : Int) - 1) = (cutB l m, false) := by
  unfold trimM
  rw [if_pos (cutB_book h hl hm), if_neg]
  unfold inBook
  rw [inB_iff]
  show ¬ ((m : Int) ≤ (m : Int) - 1 ∧ _)
  omega
theorem last_run {l : List EntM} (h : RunL l) (hl : l.length ≤ 20) {m : Nat} (hm : m ≤ l.length) : lastM (cutB l m) = (l.length : Int) := by
  unfold lastM
  rw [if_pos (cutB_book h hl hm), cutB_last l hm]
theorem time_run {l : List EntM} (h : RunL l) (hl : l.length ≤ 20) {m : Nat} (hm : m ≤ l.length) (h0 : 0 < l.length) : timeM (cutB l m) = (l[l.length - 1]'(by omega)).tm := by
  unfold timeM
  rw [if_pos (cutB_book h hl hm), cutB_last l hm, cutB_time l hm (Nat.le_refl _)]
  have e : ((l.length : Nat) : Int) = ((l.length - 1 : Nat) : Int) + 1 := by omega
  rw [e, timeAt_run l (show l.length - 1 < l.length by omega)]
theorem at_run_yes {l : List EntM} (h : RunL l) (hl : l.length ≤ 20) {m j : Nat} (hm : m ≤ l.length) (hmj : m ≤ j) (hj : j < l.length) : atM (cutB l m) ((j : Int) + 1) = (l[j], true) := by
  unfold atM
  rw [if_pos (cutB_book h hl hm), if_pos]
  · show ((l.drop m).getD ((j : Int) + 1 - (m : Int) - 1).toNat ent0, true) = _
    rw [show ((j : Int) + 1 - (m : Int) - 1).toNat = j - m by omega, egetD (show j - m < (l.drop m).length by rw [List.length_drop]; omega), List.getElem_drop]
    congr 2
    omega
  · rw [inB_iff, cutB_last l hm]
    show (m : Int) + 1 ≤ (j : Int) + 1 ∧ (j : Int) + 1 ≤ (l.length : Int)
    omega
theorem at_run_no {l : List EntM} (h : RunL l) (hl : l.length ≤ 20) {m : Nat} (hm : m ≤ l.length) {i : Int} (hi : i ≤ (m : Int)) : atM (cutB l m) i = (ent0, false) := by
  unfold atM
  rw [if_pos (cutB_book h hl hm), if_neg]
  rw [inB_iff]
  show ¬ ((m : Int) + 1 ≤ i ∧ _)
  omega
theorem back_run {l : List EntM} (h : RunL l) (hl : l.length ≤ 20) {k : Nat} (hk : k ≤ l.length) : backM ⟨0, 0, l⟩ (k : Int) = (⟨0, 0, l.take k⟩, true) := by
  unfold backM
  rw [if_pos (h.book hl), if_pos]
  · show ((⟨0, 0, l.take ((k : Int) - 0).toNat⟩ : BookM), true) = _
    rw [show ((k : Int) - 0).toNat = k by omega]
  · unfold inBook lastB
    rw [inB_iff]
    show 0 ≤ (k : Int) ∧ (k : Int) ≤ 0 + (l.length : Int)
    omega
/-- An entry of another index is not appended. -/
theorem app_far {b : BookM} {e : EntM} (h : bookB b = true) (hi : e.idx ≠ lastB b + 1) : appM b e = (b, false) := by
  unfold appM
  rw [if_pos h, if_neg]
  intro h9
  exact hi ((nextB_iff _ _).1 h9).2.1

end Go.Proofs.Ytjbhldfkkmkilaa
