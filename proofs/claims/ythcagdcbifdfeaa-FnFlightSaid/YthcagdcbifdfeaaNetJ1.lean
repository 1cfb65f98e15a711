/-
  Chapter 5: Sent, of the model (by program, wip/gen/gennetq.py).
-/
import Derived.Test.YthcagdcbifdfeaaNetD4
import Derived.Test.YthcagdcbifdfeaaNetC3
import Derived.Test.YthcagdcbifdfeaaNetE1
import Derived.Test.YthcagdcbifdfeaaNetZ1
import Derived.RegionTactic
import Derived.BigQuiet
namespace Go.Proofs.Ythcagdcbifdfeaa
set_option maxRecDepth 100000
open Go.RowKit

def sentNet (t : NetM) (m : MsgM) : NetM := ⟨t.flight ++ [m], t.cuts⟩
def sentM (t : NetM) (m : MsgM) : NetM × Bool :=
  if netOk t = true then (if msgOk m = true then (if t.flight.length = 60 then (t, false) else (sentNet t m, true)) else (zeroN, false)) else (zeroN, false)
def doubledM (t : NetM) (x : Int) : NetM × Bool :=
  if netOk t = true then (if thereB t.flight.length x = true then sentM t (t.flight.getD x.toNat ⟨0, 0, []⟩) else (t, false)) else (zeroN, false)
theorem msgOk_row {m : MsgM} (h : msgOk m = true) : m.row.length ≤ 48 := by
  unfold msgOk rowOk at h
  simp only [Bool.and_eq_true, decide_eq_true_eq] at h
  exact h.2.2.1
theorem rows_sz : ∀ {l : List MsgM}, l.all msgOk = true → (l.map msgRowSz).sum ≤ 48 * l.length
  | [], _ => by simp
  | m :: l, h => by
    simp only [List.all_cons, Bool.and_eq_true] at h
    have h1 := rows_sz h.2
    have h2 := msgOk_row h.1
    simp only [List.map_cons, List.sum_cons, List.length_cons]
    have h3 : msgRowSz m = m.row.length := rfl
    omega
theorem netOk_sz {t : NetM} (h : netOk t = true) : t.sz ≤ 4000 := by
  obtain ⟨h1, h2, h3, _⟩ := netOk_spec h
  have := rows_sz h3
  unfold NetM.sz msgSz linkSz
  omega
theorem sentNet_sz (t : NetM) (m : MsgM) : (sentNet t m).sz = t.sz + 1 + m.row.length := by
  unfold NetM.sz sentNet msgSz linkSz
  simp only [List.length_append, List.length_singleton, List.map_append, List.map_cons, List.map_nil, List.sum_append, List.sum_cons, List.sum_nil]
  have h3 : msgRowSz m = m.row.length := rfl
  omega
theorem sentM_sz1 (t : NetM) (m : MsgM) (h : t.sz ≤ 1048576) : (sentM t m).1.sz ≤ 1048577 := by
  unfold sentM
  by_cases h1 : netOk t = true
  · rw [if_pos h1]
    by_cases h2 : msgOk m = true
    · rw [if_pos h2]
      by_cases h3 : t.flight.length = 60
      · rw [if_pos h3]
        simp only
        omega
      · rw [if_neg h3]
        have := sentNet_sz t m
        have := msgOk_row h2
        have := netOk_sz h1
        simp only
        omega
    · rw [if_neg h2]
      decide
  · rw [if_neg h1]
    decide
theorem sentM_sz (t : NetM) (m : MsgM) (h : t.sz ≤ 1048576) (_ : m.sz ≤ 1048576) : (sentM t m).1.sz ≤ 1048577 := sentM_sz1 t m h
theorem doubledM_sz (t : NetM) (x : Int) (h : t.sz ≤ 1048576) : (doubledM t x).1.sz ≤ 1048577 := by
  unfold doubledM
  split
  · split
    · exact sentM_sz1 _ _ h
    · simp only
      omega
  · decide

end Go.Proofs.Ythcagdcbifdfeaa
