/-
  Chapter 11: the drawn feed as mathematics: it is valid; with a last index too small, with a base too great or with an entry twice it is not.
-/
import Derived.Test.YtepnghjmpbfmcaaEntD2
import Derived.Test.YtepnghjmpbfmcaaLetFN
namespace Go.Proofs.Ytepnghjmpbfmcaa
set_option maxRecDepth 100000
open Go.RowKit

theorem part_len {l : List EntM} {k m : Nat} (hl : l.length = 8) (hm : m ≤ 8) : ((l.drop k).take (m - k)).length = m - k := by
  rw [List.length_take, List.length_drop]
  omega
theorem part_at {l : List EntM} {k m j : Nat} (hl : l.length = 8) (hm : m ≤ 8) (hj : j < ((l.drop k).take (m - k)).length) : ∃ h : k + j < l.length, ((l.drop k).take (m - k))[j] = l[k + j] := by
  have h1 := part_len (k := k) hl hm
  refine ⟨by omega, ?_⟩
  rw [List.getElem_take, List.getElem_drop]
theorem part_ok {l : List EntM} {k m : Nat} (hr : RunL l) (hl : l.length = 8) (hm : m ≤ 8) : entsB ((l.drop k).take (m - k)) = true := by
  refine entsB_end (by rw [part_len hl hm]; omega) fun j hj => ?_
  obtain ⟨h1, e1⟩ := part_at hl hm hj
  rw [entsAt_eq hj, e1, (hr _ h1).1, Bool.true_and]
  cases j with
  | zero => exact nextAt_zero _
  | succ j =>
    have hj' : j < ((l.drop k).take (m - k)).length := by omega
    obtain ⟨h2, e2⟩ := part_at hl hm hj'
    rw [nextAt_succ hj, e1, e2]
    have i1 := (hr _ h1).2.1
    have i2 := (hr _ h2).2.1
    have i3 := (hr _ h1).2.2 (k + j) (by omega)
    simp only [Bool.and_eq_true, decide_eq_true_eq]
    exact ⟨by omega, i3⟩
theorem part_idx {l : List EntM} {k m j : Nat} (hr : RunL l) (hl : l.length = 8) (hm : m ≤ 8) (hj : j < ((l.drop k).take (m - k)).length) : ((l.drop k).take (m - k))[j].idx = (k : Int) + (j : Int) + 1 := by
  obtain ⟨h1, e1⟩ := part_at hl hm hj
  rw [e1, (hr _ h1).2.1]
  omega
theorem fed_ok {l : List EntM} {k m : Nat} {x0 x1 : Int} (hr : RunL l) (hl : l.length = 8) (hk : k ≤ 4) (hkm : k ≤ m) (hm3 : m ≤ k + 3) (h0 : 0 ≤ x0 ∧ x0 ≤ (k : Int)) (h1 : 0 ≤ x1 ∧ x1 ≤ 2) : feedOkB ⟨x0, (m : Int) + x1, (l.drop k).take (m - k)⟩ = true := by
  have hm : m ≤ 8 := by omega
  have hlen := part_len (k := k) hl hm
  rw [feedOkB_mid (by omega) (by omega) (by omega) (part_ok hr hl hm)]
  by_cases h : m - k = 0
  · exact feedIn_nil (by omega)
  · obtain ⟨q, hq⟩ : ∃ q, m - k = q + 1 := ⟨m - k - 1, by omega⟩
    rw [feedIn_some (k := q) (by omega) (by omega) (by omega), part_idx hr hl hm (by omega), part_idx hr hl hm (by omega), Bool.and_eq_true, decide_eq_true_eq, decide_eq_true_eq]
    omega
/-- The last index is above the feed's Last. -/
theorem fed_g {l : List EntM} {k m q : Nat} {x0 : Int} (hr : RunL l) (hl : l.length = 8) (hm : m ≤ 8) (hq : m - k = q + 1) : feedOkB ⟨x0, (k : Int) + (q : Int), (l.drop k).take (m - k)⟩ = false := by
  have hlen := part_len (k := k) hl hm
  rw [Bool.eq_false_iff]
  intro h
  have h2 := ((feedOkB_iff _).1 h).2.2.2.2
  rw [feedIn_some (k := q) (by omega) (by omega) (by omega), part_idx hr hl hm (by omega), part_idx hr hl hm (by omega), Bool.and_eq_true, decide_eq_true_eq, decide_eq_true_eq] at h2
  omega
/-- The first index is not above the feed's Base. -/
theorem fed_h {l : List EntM} {k m q : Nat} {x1 : Int} (hr : RunL l) (hl : l.length = 8) (hm : m ≤ 8) (hq : m - k = q + 1) : feedOkB ⟨(k : Int) + 1, x1, (l.drop k).take (m - k)⟩ = false := by
  have hlen := part_len (k := k) hl hm
  rw [Bool.eq_false_iff]
  intro h
  have h2 := ((feedOkB_iff _).1 h).2.2.2.2
  rw [feedIn_some (k := q) (by omega) (by omega) (by omega), part_idx hr hl hm (by omega), part_idx hr hl hm (by omega), Bool.and_eq_true, decide_eq_true_eq, decide_eq_true_eq] at h2
  omega
/-- An entry twice: the entries do not follow each other. -/
theorem fed_u {es : List EntM} {q : Nat} {x0 x1 : Int} (hq : es.length = q + 1) (hlast : q < es.length) : feedOkB ⟨x0, x1, es ++ [es[q]]⟩ = false := by
  rw [Bool.eq_false_iff]
  intro h
  have h2 := ((entsB_iff _).1 ((feedOkB_iff _).1 h).2.2.2.1).2 (q + 1) (by simp; omega)
  have hj : q + 1 < (es ++ [es[q]]).length := by simp; omega
  have e1 : (es ++ [es[q]])[q + 1] = es[q] := by rw [List.getElem_append_right (by omega)]; simp [hq]
  have e2 : (es ++ [es[q]])[q] = es[q] := List.getElem_append_left hlast
  rw [entsAt_eq hj, nextAt_succ hj, e1, e2, Bool.and_eq_true, Bool.and_eq_true, decide_eq_true_eq] at h2
  omega
theorem fed_row {x0 x1 : Int} {es : List EntM} (h : feedOkB ⟨x0, x1, es⟩ = true) : (feedRowM ⟨x0, x1, es⟩).length = 3 + 9 * es.length := by
  have h9 := entsNs_len es
  unfold feedRowM
  rw [if_pos h]
  simp [feedNs]
  omega
theorem fed_norow {f : FeedM} (h : feedOkB f = false) : feedRowM f = [] := by
  unfold feedRowM
  rw [if_neg (by rw [h]; decide)]

end Go.Proofs.Ytepnghjmpbfmcaa
