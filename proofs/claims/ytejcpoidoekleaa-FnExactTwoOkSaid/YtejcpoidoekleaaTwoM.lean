/-
  Pairs of disks as plain mathematics: what chapter 4 says of them.
-/
import Derived.Test.YtejcpoidoekleaaTwo
import Derived.Test.YtejcpoidoekleaaDskM4
import Derived.Test.YtejcpoidoekleaaUns
import Derived.Test.YtejcpoidoekleaaSame
namespace Go.Proofs.Ytejcpoidoekleaa
set_option maxRecDepth 100000
open Go.RowKit

def zeroT : TwoM := ⟨zeroD, zeroD⟩
def twoOk (t : TwoM) : Bool := diskOk t.a && (diskOk t.b && decide (t.a.kept.length = t.b.kept.length))
def newTwo (n : Int) : TwoM := ⟨newDisk n, newDisk n⟩
def bothWrote (t : TwoM) (i : Int) (r : List Int) : TwoM × Bool :=
  if twoOk t = true then (if (withSum r).length ≠ 0 ∧ (wrote t.a i (withSum r)).2 = true ∧ (wrote t.b i (withSum r)).2 = true then (⟨(wrote t.a i (withSum r)).1, (wrote t.b i (withSum r)).1⟩, true) else (t, false)) else (zeroT, false)
def bothSynced (t : TwoM) : TwoM := if twoOk t = true then ⟨synced t.a, synced t.b⟩ else zeroT
/-- Every second number, the first of them at k. -/
def second (xs : List Int) (k : Nat) : List Int := (List.range ((xs.length + 1 - k) / 2)).map fun j => xs.getD (k + 2 * j) 0
def bothFallen (t : TwoM) (fs : List Int) : TwoM := if twoOk t = true then ⟨fallen t.a (second fs 0), fallen t.b (second fs 1)⟩ else zeroT
/-- The row of one disk, if it is right. -/
def rightOf (d : DiskM) (i : Int) : List Int × Bool := unsummed (readAt d i).1
def rightAt (t : TwoM) (i : Int) : List (List Int) :=
  if twoOk t = true ∧ hasS t.a i = true then
    (if (rightOf t.a i).2 = true then [(rightOf t.a i).1] else []) ++ (if (rightOf t.b i).2 = true ∧ ¬ ((rightOf t.a i).2 = true ∧ (rightOf t.a i).1 = (rightOf t.b i).1) then [(rightOf t.b i).1] else [])
  else []
def mendedAt (t : TwoM) (i : Int) (r : List Int) : TwoM := if (bothWrote t i r).2 = true then bothSynced (bothWrote t i r).1 else (bothWrote t i r).1
def equalIn (t : TwoM) : Bool := twoOk t && (safeIn t.a && (safeIn t.b && decide (t.a.kept = t.b.kept)))

theorem twoOk_iff {t : TwoM} : twoOk t = true ↔ diskOk t.a = true ∧ diskOk t.b = true ∧ t.a.kept.length = t.b.kept.length := by
  unfold twoOk
  simp only [Bool.and_eq_true, decide_eq_true_eq]
theorem ok_sz9 {d : DiskM} (h : diskOk d = true) : d.sz ≤ 4900 := by
  have h1 := rows_sz_le (ok_kept_len h) (diskOk_iff.1 h).1.2
  have h2 := wait_sz_le (fun p hp => (ok_wait h p hp).2) (diskOk_iff.1 h).2.1
  unfold DiskM.sz
  omega
theorem two_sz {t : TwoM} (ha : diskOk t.a = true) (hb : diskOk t.b = true) : t.sz ≤ 9800 := by
  have h1 := ok_sz9 ha
  have h2 := ok_sz9 hb
  unfold TwoM.sz
  omega
theorem twoOk_no {t : TwoM} (h : ¬ (diskOk t.a = true ∧ diskOk t.b = true ∧ t.a.kept.length = t.b.kept.length)) : twoOk t = false := by
  cases hd : twoOk t
  · rfl
  · exact absurd (twoOk_iff.1 hd) h

/-! ### Valid pairs stay valid -/
theorem wrote_len {d : DiskM} (h : diskOk d = true) (i : Int) (r : List Int) : (wrote d i r).1.kept.length = d.kept.length := by
  unfold wrote
  rw [if_pos h]
  split <;> rfl
theorem synced_lenT {d : DiskM} (h : diskOk d = true) : (synced d).kept.length = d.kept.length := by simp [synced, h, fall, fellTo_len]
theorem fallen_lenT {d : DiskM} (h : diskOk d = true) (fs : List Int) : (fallen d fs).kept.length = d.kept.length := by simp [fallen, h, fall, fellTo_len]
theorem bothWrote_ok {t : TwoM} (h : twoOk t = true) (i : Int) (r : List Int) : twoOk (bothWrote t i r).1 = true := by
  obtain ⟨h1, h2, h3⟩ := twoOk_iff.1 h
  unfold bothWrote
  rw [if_pos h]
  split
  · exact twoOk_iff.2 ⟨wrote_ok h1 _ _, wrote_ok h2 _ _, by rw [wrote_len h1, wrote_len h2, h3]⟩
  · exact h
theorem bothSynced_ok {t : TwoM} (h : twoOk t = true) : twoOk (bothSynced t) = true := by
  obtain ⟨h1, h2, h3⟩ := twoOk_iff.1 h
  unfold bothSynced
  rw [if_pos h]
  exact twoOk_iff.2 ⟨synced_ok h1, synced_ok h2, by rw [synced_lenT h1, synced_lenT h2, h3]⟩
theorem bothFallen_ok {t : TwoM} (h : twoOk t = true) (fs : List Int) : twoOk (bothFallen t fs) = true := by
  obtain ⟨h1, h2, h3⟩ := twoOk_iff.1 h
  unfold bothFallen
  rw [if_pos h]
  exact twoOk_iff.2 ⟨fallen_ok h1 _, fallen_ok h2 _, by rw [fallen_lenT h1, fallen_lenT h2, h3]⟩
theorem newTwo_ok {n : Int} (h : secOk n = true) : twoOk (newTwo n) = true := twoOk_iff.2 ⟨newDisk_ok h, newDisk_ok h, rfl⟩

/-! ### Sizes -/
theorem zeroT_sz : zeroT.sz ≤ 1048577 := by decide
theorem ok_two_sz {t : TwoM} (h : twoOk t = true) : t.sz ≤ 9800 := two_sz (twoOk_iff.1 h).1 (twoOk_iff.1 h).2.1
theorem newTwo_sz (n : Int) : (newTwo n).sz ≤ 1048577 := by
  cases h : secOk n
  · have e : newTwo n = zeroT := by simp [newTwo, newDisk, h, zeroT]
    rw [e]
    exact zeroT_sz
  · have := ok_two_sz (newTwo_ok h)
    omega
theorem bothWrote_sz (t : TwoM) (i : Int) (r : List Int) (_h : t.sz ≤ 1048576) (_h2 : r.length ≤ 1048576) : (bothWrote t i r).1.sz ≤ 1048577 := by
  cases h : twoOk t
  · unfold bothWrote
    rw [if_neg (by simp [h])]
    exact zeroT_sz
  · have := ok_two_sz (bothWrote_ok h i r)
    omega
theorem bothSynced_sz (t : TwoM) (_h : t.sz ≤ 1048576) : (bothSynced t).sz ≤ 1048577 := by
  cases h : twoOk t
  · unfold bothSynced
    rw [if_neg (by simp [h])]
    exact zeroT_sz
  · have := ok_two_sz (bothSynced_ok h)
    omega
theorem bothFallen_sz (t : TwoM) (fs : List Int) (_h : t.sz ≤ 1048576) (_h2 : fs.length ≤ 1048576) : (bothFallen t fs).sz ≤ 1048577 := by
  cases h : twoOk t
  · unfold bothFallen
    rw [if_neg (by simp [h])]
    exact zeroT_sz
  · have := ok_two_sz (bothFallen_ok h fs)
    omega
theorem mendedAt_sz (t : TwoM) (i : Int) (r : List Int) (h : t.sz ≤ 1048576) (h2 : r.length ≤ 1048576) : (mendedAt t i r).sz ≤ 1048577 := by
  unfold mendedAt
  split
  · cases hw : twoOk t
    · rename_i hb
      rw [bothWrote, if_neg (by simp [hw])] at hb
      simp at hb
    · have := ok_two_sz (bothSynced_ok (bothWrote_ok hw i r))
      omega
  · exact bothWrote_sz t i r h h2
theorem unsummed_len (xs : List Int) : (unsummed xs).1.length ≤ 48 := by
  unfold unsummed
  split
  · rename_i h
    have := rowOk_lenS h.1
    simp only [List.length_take]
    omega
  · simp
theorem rightAt_sz (t : TwoM) (i : Int) (_h : t.sz ≤ 1048576) : rowsSz (rightAt t i) ≤ 1048577 := by
  have h1 : (rightOf t.a i).1.length ≤ 48 := unsummed_len _
  have h2 : (rightOf t.b i).1.length ≤ 48 := unsummed_len _
  unfold rightAt rowsSz
  split
  · split <;> split <;> simp <;> omega
  · simp

/-! ### Every second number -/
theorem second_len (xs : List Int) (k : Nat) : (second xs k).length = (xs.length + 1 - k) / 2 := by simp [second]
theorem second_get (xs : List Int) (k j : Nat) (h : k + 2 * j < xs.length) : (second xs k).getD j 0 = xs.getD (k + 2 * j) 0 := by
  have : j < (xs.length + 1 - k) / 2 := by omega
  simp [second, List.getD_eq_getElem?_getD, List.getElem?_map, List.getElem?_range this]
theorem second_take (xs : List Int) (k j : Nat) (h : k + 2 * j < xs.length) : (second xs k).take (j + 1) = (second xs k).take j ++ [xs.getD (k + 2 * j) 0] := by
  have hj : j < (second xs k).length := by rw [second_len]; omega
  rw [List.take_succ_eq_append_getElem hj, ← second_get xs k j h, List.getD_eq_getElem?_getD, List.getElem?_eq_getElem hj]
  rfl
theorem second_all (xs : List Int) (k j : Nat) (h : xs.length ≤ k + 2 * j) : (second xs k).take j = second xs k := List.take_of_length_le (by rw [second_len]; omega)

/-- Of a valid disk no more than sixty fates matter. -/
theorem fellTo_take (fs : List Int) (k : List (List Int)) (l : List (Int × List Int)) (m : Nat) : ∀ j, j ≤ m → fellTo false (fs.take m) k l j = fellTo false fs k l j
  | 0, _ => rfl
  | j + 1, h => by
    have ih := fellTo_take fs k l m j (by omega)
    have e : (fs.take m).getD j 0 = fs.getD j 0 := by
      rw [List.getD_eq_getElem?_getD, List.getD_eq_getElem?_getD, List.getElem?_take, if_pos (by omega)]
    simp only [fellTo, ih, e]
theorem fallen_take {d : DiskM} (h : diskOk d = true) (fs : List Int) : fallen d (fs.take 60) = fallen d fs := by
  have := (diskOk_iff.1 h).2.1
  simp only [fallen, h, if_true, fall, fellTo_take fs _ _ 60 _ this]

end Go.Proofs.Ytejcpoidoekleaa
