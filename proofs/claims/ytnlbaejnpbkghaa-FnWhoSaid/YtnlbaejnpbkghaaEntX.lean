/-
  The entries of each client as a mathematics: in order, each an entry of the list at its index, all of them together the list.
-/
import Derived.Test.YtnlbaejnpbkghaaEntD2
namespace Go.Proofs.Ytnlbaejnpbkghaa
set_option maxRecDepth 100000
open Go.RowKit

/-- How many entries are of a client before c. -/
def cntB (l : List EntM) (c : Nat) : Nat := (l.filter fun x => decide (x.cl < (c : Int))).length
theorem ofN_all (l : List EntM) (c : Int) : ofN l c l.length = l.filter fun x => x.cl == c := by
  unfold ofN
  rw [List.take_length]
theorem cnt_step (l : List EntM) (c : Nat) : cntB l (c + 1) = cntB l c + (ofN l (c : Int) l.length).length := by
  rw [ofN_all]
  unfold cntB
  induction l with
  | nil => rfl
  | cons x t ih =>
    simp only [List.filter_cons]
    by_cases h1 : x.cl < (c : Int)
    · rw [if_pos (by simpa using (show x.cl < (c : Int) + 1 by omega)), if_pos (by simpa using h1), if_neg (by simp; omega)]
      simp only [List.length_cons]
      omega
    · by_cases h2 : x.cl = (c : Int)
      · rw [if_pos (by simp; omega), if_neg (by simpa using h1), if_pos (by simpa using h2)]
        simp only [List.length_cons]
        omega
      · rw [if_neg (by simp; omega), if_neg (by simpa using h1), if_neg (by simpa using h2)]
        exact ih
theorem cnt_le (l : List EntM) (c : Nat) : cntB l c ≤ l.length := List.length_filter_le _ _
theorem RunL.cl {l : List EntM} (h : RunL l) {x : EntM} (hx : x ∈ l) : 2 ≤ x.cl ∧ x.cl ≤ 5 := by
  obtain ⟨j, hj, rfl⟩ := List.getElem_of_mem hx
  exact ((entB_iff _).1 (h j hj).1).2.2.1
theorem cnt_zero {l : List EntM} (h : RunL l) : cntB l 0 = 0 := by
  unfold cntB
  rw [List.length_eq_zero_iff, List.filter_eq_nil_iff]
  intro x hx
  have := h.cl hx
  simp
  omega
theorem cnt_six {l : List EntM} (h : RunL l) : cntB l 6 = l.length := by
  unfold cntB
  rw [List.filter_eq_self.2 fun x hx => by have := h.cl hx; simp; omega]
theorem RunL.rising {l : List EntM} (h : RunL l) : l.Pairwise fun a b => a.idx < b.idx := by
  rw [List.pairwise_iff_getElem]
  intro i j hi hj hij
  rw [(h i hi).2.1, (h j hj).2.1]
  omega
theorem who_next {l : List EntM} (h : RunL l) (c : Int) {i : Nat} (hi : i + 1 < (ofN l c l.length).length) : (ofN l c l.length)[i].idx < (ofN l c l.length)[i + 1].idx := by
  have hp : (ofN l c l.length).Pairwise fun a b => a.idx < b.idx := by rw [ofN_all]; exact h.rising.filter _
  exact (List.pairwise_iff_getElem.1 hp) i (i + 1) (by omega) hi (by omega)
theorem who_at {l : List EntM} (h : RunL l) (c : Int) {i : Nat} (hi : i < (ofN l c l.length).length) : (ofN l c l.length)[i].cl = c ∧ ∃ (j : Nat) (hj : j < l.length), l[j] = (ofN l c l.length)[i] ∧ (ofN l c l.length)[i].idx = (j : Int) + 1 := by
  have hm : (ofN l c l.length)[i] ∈ l.filter fun x => x.cl == c := by rw [← ofN_all]; exact List.getElem_mem hi
  rw [List.mem_filter] at hm
  obtain ⟨hm, hc⟩ := hm
  obtain ⟨j, hj, e⟩ := List.getElem_of_mem hm
  exact ⟨by simpa using hc, j, hj, e, by rw [← e]; exact (h j hj).2.1⟩

end Go.Proofs.Ytnlbaejnpbkghaa
