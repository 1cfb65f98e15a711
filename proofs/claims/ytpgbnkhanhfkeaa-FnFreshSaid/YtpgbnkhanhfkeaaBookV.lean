/-
  Books of drawn entries (from the first index on, each next to the one before) as a mathematics.
-/
import Derived.Test.YtpgbnkhanhfkeaaBookN
import Derived.Test.YtpgbnkhanhfkeaaEntD2
namespace Go.Proofs.Ytpgbnkhanhfkeaa
set_option maxRecDepth 100000
open Go.RowKit

theorem RunL.take {l : List EntM} (h : RunL l) (k : Nat) : RunL (l.take k) := by
  intro j hj
  rw [List.length_take] at hj
  have hjl : j < l.length := by omega
  rw [List.getElem_take]
  exact ⟨(h j hjl).1, (h j hjl).2.1, fun i hi => by rw [List.getElem_take]; exact (h j hjl).2.2 i hi⟩
theorem RunL.ent {l : List EntM} (h : RunL l) {j : Nat} (hj : j < l.length) : entB l[j] = true ∧ l[j].idx = (j : Int) + 1 ∧ 0 ≤ l[j].tm := by
  have h1 := (entB_iff _).1 (h j hj).1
  exact ⟨(h j hj).1, (h j hj).2.1, h1.2.1.1⟩
theorem RunL.book {l : List EntM} (h : RunL l) (hl : l.length ≤ 20) : bookB ⟨0, 0, l⟩ = true := by
  rw [bookB_iff]
  refine ⟨by simp, by simp, .inr rfl, hl, h.ok (by show l.length ≤ 2000; omega), ?_⟩
  unfold headB
  show (decide (l.length = 0) || (decide ((l.getD 0 ent0).idx = 0 + 1) && decide (0 ≤ (l.getD 0 ent0).tm))) = true
  by_cases h0 : l.length = 0
  · rw [decide_eq_true h0, Bool.true_or]
  · have h1 : 0 < l.length := by omega
    obtain ⟨_, h2, h3⟩ := h.ent h1
    rw [egetD h1, decide_eq_true (show l[0].idx = 0 + 1 by rw [h2]; rfl), decide_eq_true h3]
    simp
theorem RunL.next {l : List EntM} (h : RunL l) (hl : l.length ≤ 20) {j : Nat} (hj : j < l.length) : nextB ⟨0, 0, l.take j⟩ l[j] = true := by
  obtain ⟨h1, h2, h3⟩ := h.ent hj
  have hlen : (l.take j).length = j := by rw [List.length_take]; omega
  rw [nextB_iff]
  refine ⟨h1, ?_, ?_, ?_⟩
  · rw [h2]
    unfold lastB
    show (j : Int) + 1 = 0 + ((l.take j).length : Int) + 1
    omega
  · by_cases h0 : j = 0
    · subst h0
      rw [timeAt_none (by show (l.take 0).length = 0; omega)]
      exact h3
    · rw [timeAt_last (by show 0 < (l.take j).length; omega)]
      show ((l.take j).getD ((l.take j).length - 1) ent0).tm ≤ _
      rw [hlen, egetD (show j - 1 < (l.take j).length by omega), List.getElem_take]
      exact (h j hj).2.2 (j - 1) (by omega)
  · show (l.take j).length ≠ 20
    omega
theorem RunL.grow {l : List EntM} (h : RunL l) (hl : l.length ≤ 20) (k : Nat) : growM ⟨0, 0, l.take k⟩ (l.drop k) = (⟨0, 0, l⟩, true) := by
  unfold growM
  rw [if_pos ((h.take k).book (by rw [List.length_take]; omega)), if_pos (by rw [List.length_drop]; omega), if_pos]
  · unfold more
    rw [List.take_append_drop]
  · rw [growB_iff]
    intro j hj
    rw [List.length_drop] at hj
    unfold growAt more
    have e1 : (l.drop k).getD j ent0 = l[k + j] := by
      rw [egetD (by rw [List.length_drop]; exact hj), List.getElem_drop]
    have e2 : l.take k ++ (l.drop k).take j = l.take (k + j) := by rw [List.take_add]
    rw [e1]
    show nextB ⟨0, 0, l.take k ++ (l.drop k).take j⟩ l[k + j] = true
    rw [e2]
    exact h.next hl (by omega)
theorem RunL.grow0 {l : List EntM} (h : RunL l) (hl : l.length ≤ 20) : growM book0 l = (⟨0, 0, l⟩, true) := by
  have := h.grow hl 0
  rw [List.take_zero, List.drop_zero] at this
  exact this
theorem RunL.last {l : List EntM} (h : RunL l) (hl : l.length ≤ 20) : lastM ⟨0, 0, l⟩ = (l.length : Int) := by
  unfold lastM lastB
  rw [if_pos (h.book hl)]
  show (0 : Int) + (l.length : Int) = _
  omega
theorem RunL.time {l : List EntM} (h : RunL l) (hl : l.length ≤ 20) (h0 : 0 < l.length) : timeM ⟨0, 0, l⟩ = (l[l.length - 1]'(by omega)).tm := by
  unfold timeM
  rw [if_pos (h.book hl), timeAt_last (by exact h0)]
  show (l.getD (l.length - 1) ent0).tm = _
  rw [egetD (show l.length - 1 < l.length by omega)]
theorem RunL.at_yes {l : List EntM} (h : RunL l) (hl : l.length ≤ 20) {j : Nat} (hj : j < l.length) : atM ⟨0, 0, l⟩ ((j : Int) + 1) = (l[j], true) := by
  unfold atM lastB
  rw [if_pos (h.book hl), if_pos ((inB_iff _ _ _).2 (by show (0 : Int) + 1 ≤ _ ∧ _ ≤ 0 + (l.length : Int); omega))]
  show (l.getD ((j : Int) + 1 - 0 - 1).toNat ent0, true) = _
  rw [show ((j : Int) + 1 - 0 - 1).toNat = j by omega, egetD hj]
theorem RunL.at_no {l : List EntM} (h : RunL l) (hl : l.length ≤ 20) {i : Int} (hi : ¬ (1 ≤ i ∧ i ≤ (l.length : Int))) : atM ⟨0, 0, l⟩ i = (ent0, false) := by
  unfold atM lastB
  rw [if_pos (h.book hl), if_neg]
  rw [inB_iff]
  show ¬ ((0 : Int) + 1 ≤ i ∧ i ≤ 0 + (l.length : Int))
  omega
theorem RunL.filter {l : List EntM} (h : RunL l) (f : Nat) (hf : 1 ≤ f) : (l.filter fun e => decide ((f : Int) ≤ e.idx)) = l.drop (f - 1) := by
  have hl : l = l.take (f - 1) ++ l.drop (f - 1) := (List.take_append_drop _ _).symm
  have e1 : ((l.take (f - 1)).filter fun e => decide ((f : Int) ≤ e.idx)) = [] := by
    rw [List.filter_eq_nil_iff]
    intro x hx
    obtain ⟨j, hj, rfl⟩ := List.getElem_of_mem hx
    rw [List.length_take] at hj
    rw [List.getElem_take, (h j (by omega)).2.1]
    simp
    omega
  have e2 : ((l.drop (f - 1)).filter fun e => decide ((f : Int) ≤ e.idx)) = l.drop (f - 1) := by
    rw [List.filter_eq_self]
    intro x hx
    obtain ⟨j, hj, rfl⟩ := List.getElem_of_mem hx
    rw [List.length_drop] at hj
    rw [List.getElem_drop, (h (f - 1 + j) (by omega)).2.1]
    simp
    omega
  conv => lhs; rw [hl]
  rw [List.filter_append, e1, e2, List.nil_append]
theorem RunL.part {l : List EntM} (h : RunL l) (hl : l.length ≤ 20) (f s : Nat) (hf : 1 ≤ f) : partM ⟨0, 0, l⟩ (f : Int) (s : Int) = (l.drop (f - 1)).take s := by
  unfold partM
  rw [if_pos (h.book hl)]
  show (l.filter fun e => decide ((f : Int) ≤ e.idx)).take (s : Int).toNat = _
  rw [h.filter f hf, Int.toNat_natCast]

end Go.Proofs.Ytpgbnkhanhfkeaa
