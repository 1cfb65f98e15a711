/-
  Chapter 8: the entries of a valid book with an index from one to another; its end; what can be appended.
-/
import Derived.Test.YtnjfdnjakogpmaaBookN
import Derived.Test.YtnjfdnjakogpmaaBookI1
namespace Go.Proofs.Ytnjfdnjakogpmaa
set_option maxRecDepth 100000
open Go.RowKit

theorem selE_seq (a z : Int) : ∀ (l : List EntM) (k : Int), (∀ j (hj : j < l.length), l[j].idx = k + (j : Int)) → selE l a z = (l.take (z + 1 - k).toNat).drop (a - k).toNat
  | [], k, _ => by simp [selE]
  | x :: l, k, h => by
    have h0 : x.idx = k := by have := h 0 (by simp); simpa using this
    have ih := selE_seq a z l (k + 1) fun j hj => by
      have := h (j + 1) (by simp; omega)
      simp only [List.getElem_cons_succ] at this
      rw [this]
      omega
    have hf : selE (x :: l) a z = if inE a z x = true then x :: selE l a z else selE l a z := by unfold selE; rw [List.filter_cons]
    rw [hf, ih]
    have hin : inE a z x = (decide (a ≤ k) && decide (k ≤ z)) := by unfold inE; rw [h0]
    by_cases hz : k ≤ z
    · rw [show (z + 1 - k).toNat = (z + 1 - (k + 1)).toNat + 1 by omega, List.take_succ_cons]
      by_cases ha : a ≤ k
      · rw [if_pos (by rw [hin, decide_eq_true ha, decide_eq_true hz]; rfl), show (a - k).toNat = 0 by omega, show (a - (k + 1)).toNat = 0 by omega, List.drop_zero, List.drop_zero]
      · rw [if_neg (by rw [hin, decide_eq_false ha, Bool.false_and]; decide), show (a - k).toNat = (a - (k + 1)).toNat + 1 by omega, List.drop_succ_cons]
    · rw [if_neg (by rw [hin, decide_eq_false hz, Bool.and_false]; decide), show (z + 1 - k).toNat = 0 by omega, show (z + 1 - (k + 1)).toNat = 0 by omega]
      simp
theorem book_max {b : BookM} (h : bookB b = true) : lastB b ≤ 2000 := by
  obtain ⟨h1, _, _, _, he, _⟩ := (bookB_iff b).1 h
  unfold lastB
  by_cases h0 : b.ents.length = 0
  · omega
  · have hj : b.ents.length - 1 < b.ents.length := by omega
    have h2 := (entsB_all he hj).1
    have h3 := ((entB_iff _).1 h2).1
    have h4 := book_idx h _ hj
    omega
theorem sel_back {b : BookM} (h : bookB b = true) (i : Int) : selE b.ents (b.base + 1) i = b.ents.take (i - b.base).toNat := by
  rw [selE_seq _ _ b.ents (b.base + 1) (book_idx h), show (b.base + 1 - (b.base + 1)).toNat = 0 by omega, List.drop_zero, show (i + 1 - (b.base + 1)).toNat = (i - b.base).toNat by omega]
theorem sel_all {b : BookM} (h : bookB b = true) : selE b.ents (b.base + 1) 2000 = b.ents := by
  have h1 := book_max h
  unfold lastB at h1
  rw [sel_back h, List.take_of_length_le (by omega)]
theorem sel_trim {b : BookM} (h : bookB b = true) {i : Int} (hi : b.base ≤ i) : selE b.ents (i + 1) 2000 = b.ents.drop (i - b.base).toNat := by
  have h1 := book_max h
  unfold lastB at h1
  rw [selE_seq _ _ b.ents (b.base + 1) (book_idx h), List.take_of_length_le (by omega), show (i + 1 - (b.base + 1)).toNat = (i - b.base).toNat by omega]
theorem sel_one {b : BookM} (h : bookB b = true) {i : Int} (hi : inB i (b.base + 1) (lastB b) = true) : selE b.ents i i = [b.ents.getD (i - b.base - 1).toNat ent0] := by
  obtain ⟨h1, h2⟩ := (inB_iff _ _ _).1 hi
  unfold lastB at h2
  rw [selE_seq _ _ b.ents (b.base + 1) (book_idx h), show (i + 1 - (b.base + 1)).toNat = (i - b.base - 1).toNat + 1 by omega, show (i - (b.base + 1)).toNat = (i - b.base - 1).toNat by omega]
  have hj : (i - b.base - 1).toNat < b.ents.length := by omega
  rw [List.take_succ_eq_append_getElem hj, List.drop_append_of_le_length (by simp; omega), List.drop_of_length_le (by simp; omega), egetD hj]
  rfl
theorem sel_none {b : BookM} (h : bookB b = true) {i : Int} (hi : inB i (b.base + 1) (lastB b) = false) : selE b.ents i i = [] := by
  have h3 : ¬ (b.base + 1 ≤ i ∧ i ≤ lastB b) := fun h9 => by rw [← inB_iff, hi] at h9; cases h9
  unfold lastB at h3
  rw [selE_seq _ _ b.ents (b.base + 1) (book_idx h)]
  apply List.drop_of_length_le
  rw [List.length_take]
  omega
theorem sel_part {b : BookM} (h : bookB b = true) (x : Int) : selE b.ents x 2000 = b.ents.filter fun e => decide (x ≤ e.idx) := by
  obtain ⟨_, _, _, _, he, _⟩ := (bookB_iff b).1 h
  unfold selE
  apply List.filter_congr
  intro e hm
  obtain ⟨j, hj, rfl⟩ := List.getElem_of_mem hm
  have h2 := ((entB_iff _).1 (entsB_all he hj).1).1
  unfold inE
  rw [decide_eq_true h2.2, Bool.and_true]
def endM (b : BookM) : EntM := if b.ents.length = 0 then ⟨b.base, b.tm, 0, 0, 0, 0, 0, 0, 0⟩ else b.ents.getD (b.ents.length - 1) ent0
theorem endM_idx {b : BookM} (h : bookB b = true) : (endM b).idx = lastB b := by
  unfold endM lastB
  by_cases h0 : b.ents.length = 0
  · rw [if_pos h0, h0]; simp
  · have hj : b.ents.length - 1 < b.ents.length := by omega
    rw [if_neg h0, egetD hj, book_idx h _ hj]
    omega
theorem endM_tm {b : BookM} (_h : bookB b = true) : (endM b).tm = timeAt b (lastB b) := by
  unfold endM
  by_cases h0 : b.ents.length = 0
  · rw [if_pos h0, timeAt_none h0]
  · rw [if_neg h0, timeAt_last (by omega)]
def takeB (b : BookM) (e : EntM) : Bool := decide (b.ents.length < 20) && (entB e && (decide (e.idx = (endM b).idx + 1) && decide ((endM b).tm ≤ e.tm)))
theorem takeB_next {b : BookM} (h : bookB b = true) (e : EntM) : takeB b e = nextB b e := by
  have := bookB_len h
  unfold takeB nextB
  rw [endM_idx h, endM_tm h, show decide (b.ents.length < 20) = decide (b.ents.length ≠ 20) from decide_eq_decide.2 (by omega)]
  cases decide (b.ents.length ≠ 20) <;> simp

end Go.Proofs.Ytnjfdnjakogpmaa
