/-
  What the laws of disks say, as plain mathematics.
-/
import Derived.Test.YtbjdfgdcmaflkaaDskM4
import Derived.Test.YtbjdfgdcmaflkaaDskI3
namespace Go.Proofs.Ytbjdfgdcmaflkaa
open Go.RowKit

theorem safe_synced {d : DiskM} (h : diskOk d = true) : safeIn (synced d) = true := by
  have h1 := synced_ok h
  have h2 : (synced d).wait.length = 0 := by simp [synced, h, fall]
  simp [safeIn, h1, h2]
theorem safe_fallen {d : DiskM} (h : diskOk d = true) (fs : List Int) : safeIn (fallen d fs) = true := by
  have h1 := fallen_ok h fs
  have h2 : (fallen d fs).wait.length = 0 := by simp [fallen, h, fall]
  simp [safeIn, h1, h2]
theorem synced_len {d : DiskM} (h : diskOk d = true) : (synced d).kept.length = d.kept.length := by simp [synced, h, fall, fellTo_len]
theorem fallen_len {d : DiskM} (h : diskOk d = true) (fs : List Int) : (fallen d fs).kept.length = d.kept.length := by simp [fallen, h, fall, fellTo_len]
theorem synced_bad {d : DiskM} (h : diskOk d = false) : synced d = zeroD := by simp [synced, h]
theorem fallen_bad {d : DiskM} (h : diskOk d = false) (fs : List Int) : fallen d fs = zeroD := by simp [fallen, h]

theorem getD_set_row (k : List (List Int)) (i I : Nat) (x : List Int) (hI : I < k.length) : (k.set i x).getD I [] = if i = I then x else k.getD I [] := by
  by_cases h : i = I
  · subst h
    simp [hI]
  · simp [h]

/-- A sync leaves the last write to a sector. -/
theorem fellTo_all {fs : List Int} {k : List (List Int)} {l : List (Int × List Int)} {I : Nat} (hI : I < k.length) (hl : ∀ p ∈ l, 0 ≤ p.1) : ∀ j, j ≤ l.length → (fellTo true fs k l j).getD I [] = (lastTo l (I : Int) j).getD (k.getD I [])
  | 0, _ => by simp [fellTo, lastTo]
  | j + 1, hj => by
    have ih := fellTo_all (fs := fs) (k := k) hI hl j (by omega)
    have hm : l.getD j (0, []) ∈ l := by
      rw [List.getD_eq_getElem?_getD, List.getElem?_eq_getElem (by omega)]
      exact List.getElem_mem _
    have h0 := hl _ hm
    simp only [fellTo, lastTo, fell, true_or, if_true]
    rw [getD_set_row _ _ _ _ (by rw [fellTo_len]; exact hI), ih]
    generalize l.getD j (0, []) = p at *
    by_cases hp : p.1 = (I : Int)
    · rw [if_pos (by omega), if_pos hp]; rfl
    · rw [if_neg (by omega), if_neg hp]

theorem synced_at {d : DiskM} (h : diskOk d = true) {I : Nat} (hI : I < d.kept.length) : (synced d).kept.getD I [] = (readAt d (I : Int)).1 := by
  have hs : hasS d (I : Int) = true := by simp [hasS]; omega
  unfold readAt
  rw [if_pos ⟨h, hs⟩]
  have := fellTo_all (fs := []) (k := d.kept) (l := d.wait) hI (fun p hp => (ok_wait h p hp).1.1) d.wait.length (Nat.le_refl _)
  simpa [synced, h, fall] using this

/-- How many of the first j writes go to a sector. -/
def cntTo (l : List (Int × List Int)) (i : Int) : Nat → Nat
  | 0 => 0
  | j + 1 => if (l.getD j (0, [])).1 = i then cntTo l i j + 1 else cntTo l i j
theorem cntTo_le (l : List (Int × List Int)) (i : Int) : ∀ j, cntTo l i j ≤ j
  | 0 => Nat.le_refl _
  | j + 1 => by
    have := cntTo_le l i j
    unfold cntTo
    split <;> omega
theorem cntTo_hit {l : List (Int × List Int)} {i : Int} {j : Nat} {x : Int × List Int} (hj : j < l.length) (hx : l[j] = x) (h : x.1 = i) : cntTo l i (j + 1) = cntTo l i j + 1 := by
  have e : l.getD j (0, []) = x := by rw [List.getD_eq_getElem?_getD, List.getElem?_eq_getElem hj, hx]; rfl
  conv => lhs; unfold cntTo
  rw [e, if_pos h]
theorem cntTo_miss {l : List (Int × List Int)} {i : Int} {j : Nat} {x : Int × List Int} (hj : j < l.length) (hx : l[j] = x) (h : x.1 ≠ i) : cntTo l i (j + 1) = cntTo l i j := by
  have e : l.getD j (0, []) = x := by rw [List.getD_eq_getElem?_getD, List.getElem?_eq_getElem hj, hx]; rfl
  conv => lhs; unfold cntTo
  rw [e, if_neg h]

/-- What no write went to stays. -/
theorem fellTo_none {fs : List Int} {k : List (List Int)} {l : List (Int × List Int)} {I : Nat} (hI : I < k.length) (hl : ∀ p ∈ l, 0 ≤ p.1) : ∀ j, j ≤ l.length → cntTo l (I : Int) j = 0 → (fellTo false fs k l j).getD I [] = k.getD I []
  | 0, _, _ => by simp [fellTo]
  | j + 1, hj, hc => by
    have hm : l.getD j (0, []) ∈ l := by
      rw [List.getD_eq_getElem?_getD, List.getElem?_eq_getElem (by omega)]
      exact List.getElem_mem _
    have h0 := hl _ hm
    unfold cntTo at hc
    split at hc
    · omega
    · rename_i hne
      have ih := fellTo_none (fs := fs) (k := k) hI hl j (by omega) hc
      have hI' : I < (fellTo false fs k l j).length := by rw [fellTo_len]; exact hI
      simp only [fellTo, fell]
      generalize l.getD j (0, []) = p at *
      have hpi : p.1.toNat ≠ I := by omega
      split
      · rw [getD_set_row _ _ _ _ hI', if_neg hpi, ih]
      · split
        · rw [getD_set_row _ _ _ _ hI', if_neg hpi, ih]
        · exact ih
theorem fallen_at {d : DiskM} (h : diskOk d = true) (fs : List Int) {I : Nat} (hI : I < d.kept.length) (hc : cntTo d.wait (I : Int) d.wait.length = 0) : (fallen d fs).kept.getD I [] = d.kept.getD I [] := by
  have := fellTo_none (fs := fs) (k := d.kept) (l := d.wait) hI (fun p hp => (ok_wait h p hp).1.1) d.wait.length (Nat.le_refl _) hc
  simpa [fallen, h, fall] using this

theorem wrote_first {d : DiskM} (h : safeIn d = true) : wrote d 0 [7, 8] = (⟨d.kept, [(0, [7, 8])]⟩, true) := by
  unfold safeIn at h
  simp only [Bool.and_eq_true, decide_eq_true_eq] at h
  obtain ⟨h1, h2⟩ := h
  have h3 := (diskOk_iff.1 h1).1.1
  have hw : d.wait = [] := List.length_eq_zero_iff.1 h2
  unfold wrote
  rw [if_pos h1, if_pos ⟨by simp [hasS]; omega, by decide, by omega⟩, hw]
  rfl
theorem read_first {d : DiskM} (h : safeIn d = true) : readAt ⟨d.kept, [(0, [7, 8])]⟩ 0 = ([7, 8], true) := by
  have h1 : diskOk d = true := by unfold safeIn at h; simp only [Bool.and_eq_true] at h; exact h.1
  have h2 := wrote_ok h1 0 [7, 8]
  rw [wrote_first h] at h2
  have h3 := (diskOk_iff.1 h1).1.1
  unfold readAt
  rw [if_pos ⟨h2, by simp [hasS]; omega⟩]
  rfl

/-- Every write kept is a sync; every write lost leaves the rows. -/
theorem fellTo_ones {k : List (List Int)} {l : List (Int × List Int)} (m : Nat) : ∀ j, j ≤ m → fellTo false (List.replicate m 1) k l j = fellTo true [] k l j
  | 0, _ => rfl
  | j + 1, hj => by
    have ih := fellTo_ones (k := k) (l := l) m j (by omega)
    have e : (List.replicate m (1 : Int)).getD j 0 = 1 := by
      rw [List.getD_eq_getElem?_getD, List.getElem?_replicate, if_pos (by omega)]
      rfl
    unfold fellTo
    rw [ih, e]
    unfold fell
    rw [if_pos (Or.inr rfl), if_pos (Or.inl rfl)]
theorem fallen_ones {d : DiskM} (h : diskOk d = true) : fallen d (List.replicate 60 1) = synced d := by
  unfold fallen synced fall
  rw [if_pos h, if_pos h, fellTo_ones 60 d.wait.length (diskOk_iff.1 h).2.1]
theorem fellTo_lost {k : List (List Int)} {l : List (Int × List Int)} : ∀ j, fellTo false [] k l j = k
  | 0 => rfl
  | j + 1 => by simp [fellTo, fellTo_lost j, fell]
theorem fallen_lost {d : DiskM} (h : diskOk d = true) : (fallen d []).kept = d.kept := by simp [fallen, h, fall, fellTo_lost]

end Go.Proofs.Ytbjdfgdcmaflkaa
