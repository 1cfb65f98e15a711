/-
  Disks as plain mathematics: what the functions of chapter 3 hand back stays within the laws' purse.
-/
import Derived.Test.YtejcpoidoekleaaDskM2
namespace Go.Proofs.Ytejcpoidoekleaa
set_option maxRecDepth 100000
open Go.RowKit

theorem rows_sz_le {l : List (List Int)} (h : ∀ r ∈ l, r.length ≤ 48) (hl : l.length ≤ 40) : rowsSz l ≤ 1960 := by
  have := sum_len_le h
  unfold rowsSz
  omega
theorem wait_sz_le {l : List (Int × List Int)} (h : ∀ p ∈ l, p.2.length ≤ 48) (hl : l.length ≤ 60) : waitSz l ≤ 2940 := by
  have h1 : (l.map wrSz).sum ≤ 48 * l.length := by
    clear hl
    induction l with
    | nil => simp
    | cons p l ih =>
      have h1 := h p (by simp)
      have h2 := ih (fun q hq => h q (by simp [hq]))
      simp only [List.map_cons, List.sum_cons, List.length_cons]
      have h3 : wrSz p = p.2.length := rfl
      omega
  unfold waitSz
  omega
theorem newDisk_sz (n : Int) : (newDisk n).sz ≤ 1048577 := by
  unfold newDisk
  split
  · rename_i h
    obtain ⟨h0, h1⟩ : 1 ≤ n ∧ n ≤ 40 := by simpa [secOk] using h
    have h2 : rowsSz (List.replicate n.toNat ([] : List Int)) ≤ 1960 := rows_sz_le (fun r hr => by rw [(List.mem_replicate.1 hr).2]; simp) (by simp; omega)
    show rowsSz (List.replicate n.toNat ([] : List Int)) + 0 ≤ 1048577
    omega
  · exact zero_sz
theorem lastTo_len {l : List (Int × List Int)} {i : Int} (h : ∀ p ∈ l, p.2.length ≤ 48) : ∀ (j : Nat) (r : List Int), lastTo l i j = some r → r.length ≤ 48
  | 0, r, e => by cases e
  | j + 1, r, e => by
    rw [lastTo] at e
    split at e
    · injection e with e
      rw [← e]
      rcases Nat.lt_or_ge j l.length with h1 | h1
      · simp only [List.getD, List.getElem?_eq_getElem h1, Option.getD_some]
        exact h _ (List.getElem_mem h1)
      · simp [List.getD, List.getElem?_eq_none h1]
    · exact lastTo_len h j r e
theorem readAt_sz (d : DiskM) (i : Int) (_h : d.sz ≤ 1048576) : (readAt d i).1.length ≤ 1048577 := by
  unfold readAt
  split
  · rename_i hc
    show ((lastTo d.wait i d.wait.length).getD (d.kept.getD i.toNat [])).length ≤ 1048577
    cases hl : lastTo d.wait i d.wait.length with
    | none => have := getD_len (ok_kept_len hc.1) i.toNat; simp only [Option.getD_none]; omega
    | some r => have := lastTo_len (fun p hp => (ok_wait hc.1 p hp).2) _ r hl; simp only [Option.getD_some]; omega
  · simp
theorem wrote_sz (d : DiskM) (i : Int) (r : List Int) (h : d.sz ≤ 1048576) (_h2 : r.length ≤ 1048576) : (wrote d i r).1.sz ≤ 1048577 := by
  unfold wrote
  split
  · rename_i hd
    split
    · rename_i hc
      have h1 := rows_sz_le (ok_kept_len hd) (diskOk_iff.1 hd).1.2
      have h2 := wait_sz_le (l := d.wait ++ [(i, r)]) (fun p hp => by
        rcases List.mem_append.1 hp with h9 | h9
        · exact (ok_wait hd p h9).2
        · have : p = (i, r) := by simpa using h9
          rw [this]
          exact rowOk_len hc.2.1) (by simp; omega)
      show rowsSz d.kept + waitSz (d.wait ++ [(i, r)]) ≤ 1048577
      omega
    · show d.sz ≤ 1048577
      omega
  · exact zero_sz
theorem rotted_sz (d : DiskM) (a i x : Int) (h : d.sz ≤ 1048576) : (rotted d a i x).1.sz ≤ 1048577 := by
  unfold rotted
  split
  · rename_i hd
    split
    · have h1 := rows_sz_le (l := d.kept.set a.toNat ((d.kept.getD a.toNat []).set i.toNat x)) (mem_set_len (ok_kept_len hd) (by rw [List.length_set]; exact getD_len (ok_kept_len hd) _)) (by rw [List.length_set]; exact (diskOk_iff.1 hd).1.2)
      have h2 := wait_sz_le (fun p hp => (ok_wait hd p hp).2) (diskOk_iff.1 hd).2.1
      show rowsSz (d.kept.set a.toNat ((d.kept.getD a.toNat []).set i.toNat x)) + waitSz d.wait ≤ 1048577
      omega
    · show d.sz ≤ 1048577
      omega
  · exact zero_sz

end Go.Proofs.Ytejcpoidoekleaa
