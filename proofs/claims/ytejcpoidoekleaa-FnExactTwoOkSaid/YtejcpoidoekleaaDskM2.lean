/-
  Disks as plain mathematics: how long their rows stay.
-/
import Derived.Test.YtejcpoidoekleaaDskM
namespace Go.Proofs.Ytejcpoidoekleaa
set_option maxRecDepth 100000
open Go.RowKit

theorem rowOk_len {r : List Int} (h : rowOk r = true) : r.length ≤ 48 := by
  rcases Nat.lt_or_ge 48 r.length with h1 | h1
  · rw [rowOk_long h1] at h; cases h
  · exact h1
theorem fell_len (all : Bool) (fate : Int) (k : List (List Int)) (p : Int × List Int) : (fell all fate k p).length = k.length := by
  unfold fell
  split
  · simp
  · split
    · simp
    · rfl
theorem fellTo_len (all : Bool) (fs : List Int) (k : List (List Int)) (l : List (Int × List Int)) (j : Nat) : (fellTo all fs k l j).length = k.length := by
  induction j with
  | zero => rfl
  | succ j ih => rw [fellTo, fell_len, ih]
theorem torn_len {r old : List Int} (h1 : r.length ≤ 48) (h2 : old.length ≤ 48) : (torn r old).length ≤ 48 := by
  unfold torn
  rw [List.length_append, List.length_take, List.length_drop]
  omega
theorem getD_len {k : List (List Int)} (h : ∀ r ∈ k, r.length ≤ 48) (i : Nat) : (k.getD i []).length ≤ 48 := by
  rcases Nat.lt_or_ge i k.length with h1 | h1
  · simp only [List.getD, List.getElem?_eq_getElem h1, Option.getD_some]
    exact h _ (List.getElem_mem h1)
  · simp [List.getD, List.getElem?_eq_none h1]
theorem mem_set_len {k : List (List Int)} {i : Nat} {x : List Int} (h : ∀ r ∈ k, r.length ≤ 48) (hx : x.length ≤ 48) : ∀ r ∈ k.set i x, r.length ≤ 48 := by
  intro r hr
  rcases List.mem_or_eq_of_mem_set hr with h1 | h1
  · exact h r h1
  · rw [h1]; exact hx
theorem fellTo_rows {all : Bool} {fs : List Int} {k : List (List Int)} {l : List (Int × List Int)} (hk : ∀ r ∈ k, r.length ≤ 48) (hl : ∀ p ∈ l, p.2.length ≤ 48) (j : Nat) : ∀ r ∈ fellTo all fs k l j, r.length ≤ 48 := by
  induction j with
  | zero => exact hk
  | succ j ih =>
    have hp : (l.getD j (0, [])).2.length ≤ 48 := by
      rcases Nat.lt_or_ge j l.length with h1 | h1
      · simp only [List.getD, List.getElem?_eq_getElem h1, Option.getD_some]
        exact hl _ (List.getElem_mem h1)
      · simp [List.getD, List.getElem?_eq_none h1]
    rw [fellTo]
    unfold fell
    split
    · exact mem_set_len ih hp
    · split
      · exact mem_set_len ih (torn_len hp (getD_len ih _))
      · exact ih
theorem ok_kept_len {d : DiskM} (h : diskOk d = true) : ∀ r ∈ d.kept, r.length ≤ 48 := fun r hr => rowOk_len (List.all_eq_true.1 (diskOk_iff.1 h).2.2.1 r hr)
theorem ok_wait {d : DiskM} (h : diskOk d = true) : ∀ p ∈ d.wait, (0 ≤ p.1 ∧ p.1 < (d.kept.length : Int)) ∧ p.2.length ≤ 48 := fun p hp => by
  have := List.all_eq_true.1 (diskOk_iff.1 h).2.2.2 p hp
  unfold wrOk hasS at this
  simp only [Bool.and_eq_true, decide_eq_true_eq] at this
  exact ⟨⟨this.1.1, by omega⟩, rowOk_len this.2⟩
theorem sum_len_le {k : List (List Int)} (h : ∀ r ∈ k, r.length ≤ 48) : (k.map List.length).sum ≤ 48 * k.length := by
  induction k with
  | nil => simp
  | cons r k ih =>
    have h1 := h r (by simp)
    have h2 := ih (fun x hx => h x (by simp [hx]))
    simp only [List.map_cons, List.sum_cons, List.length_cons]
    omega
theorem fall_sz {d : DiskM} (h : diskOk d = true) (all : Bool) (fs : List Int) : (fall all d fs).sz ≤ 1048577 := by
  have h1 := fellTo_rows (all := all) (fs := fs) (ok_kept_len h) (fun p hp => (ok_wait h p hp).2) d.wait.length
  have h2 := fellTo_len all fs d.kept d.wait d.wait.length
  have h3 := sum_len_le h1
  have h4 := (diskOk_iff.1 h).1.2
  show (fellTo all fs d.kept d.wait d.wait.length).length + ((fellTo all fs d.kept d.wait d.wait.length).map List.length).sum + ([].length + 0) ≤ 1048577
  simp only [List.length_nil]
  omega
theorem zero_sz : zeroD.sz ≤ 1048577 := by decide
theorem synced_sz (d : DiskM) (_h : d.sz ≤ 1048576) : (synced d).sz ≤ 1048577 := by
  unfold synced
  split
  · rename_i hd; exact fall_sz hd _ _
  · exact zero_sz
theorem fallen_sz (d : DiskM) (fs : List Int) (_h : d.sz ≤ 1048576) (_h2 : fs.length ≤ 1048576) : (fallen d fs).sz ≤ 1048577 := by
  unfold fallen
  split
  · rename_i hd; exact fall_sz hd _ _
  · exact zero_sz

end Go.Proofs.Ytejcpoidoekleaa
