/-
  What FnFlight's law needs of the networks it goes through: one set of cuts, messages taken out and put behind.
-/
import Derived.Test.YthcagdcbifdfeaaNetL0
import Derived.Test.YthcagdcbifdfeaaNetH1
namespace Go.Proofs.Ythcagdcbifdfeaa
set_option maxRecDepth 100000
open Go.RowKit

section
variable {l : List MsgM} {c : List LinkM} {m : MsgM} {k : Nat} {x : Int}
theorem netOk_erase (h : netOk ⟨l, c⟩ = true) (k : Nat) : netOk ⟨l.eraseIdx k, c⟩ = true := by
  obtain ⟨h1, h2, h3, h4⟩ := netOk_spec h
  have hs : (l.eraseIdx k).Sublist l := List.eraseIdx_sublist ..
  refine netOk_yes (Nat.le_trans hs.length_le h1) h2 ?_ h4
  rw [List.all_eq_true] at h3 ⊢
  exact fun x hx => h3 x (hs.subset hx)
theorem netOk_snoc (h : netOk ⟨l, c⟩ = true) (hl : l.length < 60) (hm : msgOk m = true) : netOk ⟨l ++ [m], c⟩ = true := by
  obtain ⟨h1, h2, h3, h4⟩ := netOk_spec h
  refine netOk_yes ?_ h2 ?_ h4
  · show (l ++ [m]).length ≤ 60
    rw [List.length_append, List.length_singleton]
    omega
  · show (l ++ [m]).all msgOk = true
    rw [List.all_append, show l.all msgOk = true from h3]
    simp [hm]
theorem netOk_msgAt (h : netOk ⟨l, c⟩ = true) (hk : k < l.length) : msgOk l[k] = true :=
  List.all_eq_true.1 (netOk_spec h).2.2.1 _ (List.getElem_mem hk)
theorem there_nat' (hk : k < l.length) : thereB l.length (k : Int) = true := full_there (by omega) (by omega)
theorem not_there (_h0 : 0 ≤ x) (h1 : (l.length : Int) ≤ x) : thereB l.length x = false := by
  unfold thereB
  rw [decide_eq_false (show ¬ x < (l.length : Int) by omega), Bool.and_false]
theorem getD_k (hk : k < l.length) (d : MsgM) : l.getD (k : Int).toNat d = l[k] := by simp [List.getD, List.getElem?_eq_getElem hk]
theorem lost_in (h : netOk ⟨l, c⟩ = true) (hk : k < l.length) : lostM ⟨l, c⟩ (k : Int) = (⟨l.eraseIdx k, c⟩, true) := by
  unfold lostM
  rw [if_pos h, if_pos (there_nat' hk)]
  rfl
theorem lost_out (h : netOk ⟨l, c⟩ = true) (h0 : 0 ≤ x) (h1 : (l.length : Int) ≤ x) : lostM ⟨l, c⟩ x = (⟨l, c⟩, false) := by
  unfold lostM
  rw [if_pos h, not_there (l := l) h0 h1]
  rfl
theorem sent_in (h : netOk ⟨l, c⟩ = true) (hl : l.length < 60) (hm : msgOk m = true) : sentM ⟨l, c⟩ m = (⟨l ++ [m], c⟩, true) := by
  unfold sentM
  rw [if_pos h, if_pos hm, if_neg (show ¬ l.length = 60 by omega)]
  rfl
theorem doubled_in (h : netOk ⟨l, c⟩ = true) (hl : l.length < 60) (hk : k < l.length) : doubledM ⟨l, c⟩ (k : Int) = (⟨l ++ [l[k]], c⟩, true) := by
  unfold doubledM
  rw [if_pos h, if_pos (there_nat' hk), getD_k hk]
  exact sent_in h hl (netOk_msgAt h hk)
theorem doubled_out (h : netOk ⟨l, c⟩ = true) (h0 : 0 ≤ x) (h1 : (l.length : Int) ≤ x) : doubledM ⟨l, c⟩ x = (⟨l, c⟩, false) := by
  unfold doubledM
  rw [if_pos h, not_there (l := l) h0 h1]
  rfl
theorem handed_in (h : netOk ⟨l, c⟩ = true) (hk : k < l.length) :
    handedM ⟨l, c⟩ (k : Int) = if isCut c (linkOf l[k].frm l[k].dest) = true then (⟨l.eraseIdx k, c⟩, msg0, false) else (⟨l.eraseIdx k, c⟩, l[k], true) := by
  unfold handedM
  rw [if_pos h, if_pos (there_nat' hk), getD_k hk]
  rfl
theorem handed_out (h : netOk ⟨l, c⟩ = true) (h0 : 0 ≤ x) (h1 : (l.length : Int) ≤ x) : handedM ⟨l, c⟩ x = (⟨l, c⟩, msg0, false) := by
  unfold handedM
  rw [if_pos h, not_there (l := l) h0 h1]
  rfl
end
/-- One cut link: which letters it shuts out. -/
theorem one_cut {a b x y : Int} (_hab : a ≠ b) (_hxy : x ≠ y) : isCut [linkOf a b] (linkOf x y) = ((x == a && y == b) || (x == b && y == a)) := by
  rw [Bool.eq_iff_iff, isCut_iff, List.mem_singleton]
  simp only [Bool.or_eq_true, Bool.and_eq_true, beq_iff_eq]
  unfold linkOf
  split <;> split <;> rw [LinkM.mk.injEq] <;> omega
theorem msg_two {m : MsgM} (h : msgOk m = true) : m.frm ≠ m.dest := by
  unfold msgOk twoB at h
  simp only [Bool.and_eq_true, bne_iff_ne] at h
  exact h.1.2
/-- The first cut of the empty network. -/
theorem cut_first {a b : Int} (ha : 0 ≤ a ∧ a ≤ 5) (hb : 0 ≤ b ∧ b ≤ 5) (hab : a ≠ b) : cutOffM zeroN a b = (⟨[], [linkOf a b]⟩, true) ∧ netOk ⟨[], [linkOf a b]⟩ = true := by
  obtain ⟨i, rfl⟩ : ∃ i : Nat, a = (i : Int) := ⟨a.toNat, by omega⟩
  obtain ⟨j, rfl⟩ : ∃ j : Nat, b = (j : Int) := ⟨b.toNat, by omega⟩
  have hij : i ≠ j := by omega
  have e : cutOffM zeroN i j = (cutNet zeroN (linkOf i j), true) := by
    unfold cutOffM
    rw [if_pos (by decide), twoB_yes (by omega) (by omega) hij, isCut_no.2 (by simp [zeroN])]
    rfl
  have e2 : cutNet zeroN (linkOf (i : Int) (j : Int)) = ⟨[], [linkOf i j]⟩ := by
    unfold cutNet zeroN
    simp
  have hok := cutNet_ok (t := zeroN) (l := linkOf i j) (by decide) (linkOf_B (by omega) (by omega) hij) (isCut_no.2 (by simp [zeroN])) (by decide)
  rw [e2] at e hok
  exact ⟨e, hok⟩
end Go.Proofs.Ythcagdcbifdfeaa
