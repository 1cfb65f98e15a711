/-
  Disks as plain mathematics: valid ones stay valid.
-/
import Derived.Test.YtejcpoidoekleaaDskM3
namespace Go.Proofs.Ytejcpoidoekleaa
set_option maxRecDepth 100000
open Go.RowKit

theorem rowOk_iff {r : List Int} : rowOk r = true ↔ r.length ≤ 48 ∧ ∀ x ∈ r, numOk x = true := by
  unfold rowOk
  simp [List.all_eq_true]
theorem torn_ok {r old : List Int} (h1 : rowOk r = true) (h2 : rowOk old = true) : rowOk (torn r old) = true := by
  obtain ⟨a1, b1⟩ := rowOk_iff.1 h1
  obtain ⟨a2, b2⟩ := rowOk_iff.1 h2
  refine rowOk_iff.2 ⟨torn_len a1 a2, fun x hx => ?_⟩
  unfold torn at hx
  rcases List.mem_append.1 hx with h | h
  · exact b1 x (List.mem_of_mem_take h)
  · exact b2 x (List.mem_of_mem_drop h)
theorem nil_ok : rowOk [] = true := rowOk_iff.2 ⟨by simp, fun x hx => by cases hx⟩
theorem getD_ok {k : List (List Int)} (h : ∀ r ∈ k, rowOk r = true) (i : Nat) : rowOk (k.getD i []) = true := by
  rcases Nat.lt_or_ge i k.length with h1 | h1
  · simp only [List.getD, List.getElem?_eq_getElem h1, Option.getD_some]
    exact h _ (List.getElem_mem h1)
  · simp only [List.getD, List.getElem?_eq_none h1, Option.getD_none]
    exact nil_ok
theorem mem_set_ok {k : List (List Int)} {i : Nat} {x : List Int} (h : ∀ r ∈ k, rowOk r = true) (hx : rowOk x = true) : ∀ r ∈ k.set i x, rowOk r = true := by
  intro r hr
  rcases List.mem_or_eq_of_mem_set hr with h1 | h1
  · exact h r h1
  · rw [h1]; exact hx
theorem fellTo_ok {all : Bool} {fs : List Int} {k : List (List Int)} {l : List (Int × List Int)} (hk : ∀ r ∈ k, rowOk r = true) (hl : ∀ p ∈ l, rowOk p.2 = true) (j : Nat) : ∀ r ∈ fellTo all fs k l j, rowOk r = true := by
  induction j with
  | zero => exact hk
  | succ j ih =>
    have hp : rowOk (l.getD j (0, [])).2 = true := by
      rcases Nat.lt_or_ge j l.length with h1 | h1
      · simp only [List.getD, List.getElem?_eq_getElem h1, Option.getD_some]
        exact hl _ (List.getElem_mem h1)
      · simp only [List.getD, List.getElem?_eq_none h1, Option.getD_none]
        exact nil_ok
    rw [fellTo]
    unfold fell
    split
    · exact mem_set_ok ih hp
    · split
      · exact mem_set_ok ih (torn_ok hp (getD_ok ih _))
      · exact ih
theorem ok_rows {d : DiskM} (h : diskOk d = true) : ∀ r ∈ d.kept, rowOk r = true := List.all_eq_true.1 (diskOk_iff.1 h).2.2.1
theorem ok_writes {d : DiskM} (h : diskOk d = true) : ∀ p ∈ d.wait, rowOk p.2 = true := fun p hp => by
  have := List.all_eq_true.1 (diskOk_iff.1 h).2.2.2 p hp
  unfold wrOk at this
  simp only [Bool.and_eq_true] at this
  exact this.2
theorem fall_ok {d : DiskM} (h : diskOk d = true) (all : Bool) (fs : List Int) : diskOk (fall all d fs) = true := by
  have hl := fellTo_len all fs d.kept d.wait d.wait.length
  obtain ⟨⟨h1, h2⟩, _⟩ := diskOk_iff.1 h
  refine diskOk_iff.2 ⟨⟨?_, ?_⟩, Nat.zero_le _, List.all_eq_true.2 (fellTo_ok (ok_rows h) (ok_writes h) _), rfl⟩
  · show 1 ≤ (fellTo all fs d.kept d.wait d.wait.length).length
    omega
  · show (fellTo all fs d.kept d.wait d.wait.length).length ≤ 40
    omega
theorem synced_ok {d : DiskM} (h : diskOk d = true) : diskOk (synced d) = true := by
  unfold synced
  rw [if_pos h]
  exact fall_ok h _ _
theorem fallen_ok {d : DiskM} (h : diskOk d = true) (fs : List Int) : diskOk (fallen d fs) = true := by
  unfold fallen
  rw [if_pos h]
  exact fall_ok h _ _
theorem wrote_ok {d : DiskM} (h : diskOk d = true) (i : Int) (r : List Int) : diskOk (wrote d i r).1 = true := by
  unfold wrote
  rw [if_pos h]
  split
  · rename_i hc
    obtain ⟨h1, h2, h3, h4⟩ := diskOk_iff.1 h
    refine diskOk_iff.2 ⟨h1, ?_, h3, ?_⟩
    · show (d.wait ++ [(i, r)]).length ≤ 60
      simp
      omega
    · show (d.wait ++ [(i, r)]).all (wrOk d) = true
      rw [List.all_append, h4]
      simp [wrOk, hc.1, hc.2.1]
  · exact h
theorem newDisk_ok {n : Int} (h : secOk n = true) : diskOk (newDisk n) = true := by
  obtain ⟨h0, h1⟩ : 1 ≤ n ∧ n ≤ 40 := by simpa [secOk] using h
  unfold newDisk
  rw [if_pos h]
  refine diskOk_iff.2 ⟨⟨?_, ?_⟩, Nat.zero_le _, List.all_eq_true.2 (fun r hr => by rw [(List.mem_replicate.1 hr).2]; exact nil_ok), rfl⟩
  · show 1 ≤ (List.replicate n.toNat ([] : List Int)).length
    simp
    omega
  · show (List.replicate n.toNat ([] : List Int)).length ≤ 40
    simp
    omega

end Go.Proofs.Ytejcpoidoekleaa
