/-
  Plain facts on checksums: the checksum is taken off again, and a row with one changed number has another one.
-/
import Derived.Test.YtooahggehgkcdaaUns
namespace Go.Proofs.Ytooahggehgkcdaa

theorem sumStep_inj {s t x : Int} (s0 : 0 ≤ s) (s1 : s < 999999937) (t0 : 0 ≤ t) (t1 : t < 999999937) (h : sumStep s x = sumStep t x) : s = t := by
  unfold sumStep at h
  omega
theorem sumStep_ne {s x y : Int} (h0 : x ≠ y) (h1 : x - y ≤ 999999) (h2 : y - x ≤ 999999) : sumStep s x ≠ sumStep s y := by
  unfold sumStep
  omega
theorem fold_inj (l : List Int) : ∀ {s t : Int}, 0 ≤ s → s < 999999937 → 0 ≤ t → t < 999999937 → l.foldl sumStep s = l.foldl sumStep t → s = t := by
  induction l with
  | nil => intro s t _ _ _ _ h; exact h
  | cons x l ih =>
    intro s t s0 s1 t0 t1 h
    have a := sumStep_bd s x
    have b := sumStep_bd t x
    exact sumStep_inj s0 s1 t0 t1 (ih a.1 a.2 b.1 b.2 h)

theorem sumTo_set_ne {xs : List Int} {i : Nat} (hi : i < xs.length) {y : Int} (h0 : xs.getD i 0 ≠ y) (h1 : xs.getD i 0 - y ≤ 999999) (h2 : y - xs.getD i 0 ≤ 999999) :
    sumTo (xs.set i y) (xs.set i y).length ≠ sumTo xs xs.length := by
  intro h
  have e1 : xs = xs.take i ++ xs.getD i 0 :: xs.drop (i + 1) := by
    have : xs.getD i 0 = xs[i] := by simp [List.getD, List.getElem?_eq_getElem hi]
    rw [this, ← List.drop_eq_getElem_cons hi, List.take_append_drop]
  have e2 : xs.set i y = xs.take i ++ y :: xs.drop (i + 1) := by
    rw [List.set_eq_take_append_cons_drop, if_pos hi]
  unfold sumTo at h
  rw [List.take_length, List.take_length, e2] at h
  rw [show xs.foldl sumStep 7 = (xs.take i ++ xs.getD i 0 :: xs.drop (i + 1)).foldl sumStep 7 from congrArg (fun l => l.foldl sumStep 7) e1] at h
  rw [List.foldl_append, List.foldl_append, List.foldl_cons, List.foldl_cons] at h
  have a := sumStep_bd ((xs.take i).foldl sumStep 7) y
  have b := sumStep_bd ((xs.take i).foldl sumStep 7) (xs.getD i 0)
  exact sumStep_ne h0 h1 h2 (fold_inj _ a.1 a.2 b.1 b.2 h).symm

theorem rowOk_iff {xs : List Int} : rowOk xs = true ↔ xs.length ≤ 48 ∧ ∀ x ∈ xs, 0 ≤ x ∧ x ≤ 1000000000 := by
  simp [rowOk, numOk]

theorem sumOf_bd {xs : List Int} (h : rowOk xs = true) : 0 ≤ sumOf xs ∧ sumOf xs ≤ 1000000000 := by
  have := sumTo_bd xs xs.length
  simp only [sumOf, h, if_true]
  omega

theorem rowOk_snoc {xs : List Int} (h : rowOk xs = true) (hl : xs.length < 48) {s : Int} (s0 : 0 ≤ s) (s1 : s ≤ 1000000000) : rowOk (xs ++ [s]) = true := by
  rw [rowOk_iff] at h ⊢
  refine ⟨by simp; omega, fun x hx => ?_⟩
  rcases List.mem_append.1 hx with h1 | h1
  · exact h.2 x h1
  · simp at h1; subst h1; exact ⟨s0, s1⟩

/-- The checksum is taken off again. -/
theorem uns_with {xs : List Int} (h : rowOk xs = true) (hl : xs.length < 48) : unsummed (withSum xs) = (xs, true) := by
  have hb := sumOf_bd h
  rw [withSum_yes h hl]
  have := unsummed_yes (xs := xs ++ [sumOf xs]) (m := xs.length) (rowOk_snoc h hl hb.1 hb.2) (by simp) (by simp [List.getD])
  simpa using this

/-- A row with one changed number is rejected. -/
theorem uns_bent {xs : List Int} (h : rowOk xs = true) (hl : xs.length < 48) {i : Nat} (hi : i < (withSum xs).length) {y : Int}
    (h0 : (withSum xs).getD i 0 ≠ y) (h1 : (withSum xs).getD i 0 - y ≤ 999999) (h2 : y - (withSum xs).getD i 0 ≤ 999999) : (unsummed ((withSum xs).set i y)).2 = false := by
  have hb := sumOf_bd h
  rw [withSum_yes h hl] at hi h0 h1 h2 ⊢
  cases hr : rowOk ((xs ++ [sumOf xs]).set i y)
  · rw [unsummed_no hr]
  · have hlen : ((xs ++ [sumOf xs]).set i y).length = xs.length + 1 := by simp
    rw [unsummed_bad (m := xs.length) hlen]
    by_cases hlast : i < xs.length
    · rw [List.set_append_left _ _ hlast] at hr ⊢
      rw [List.take_left' (by simp)]
      have hg : (xs.set i y ++ [sumOf xs]).getD xs.length 0 = sumOf xs := by simp [List.getD]
      rw [hg]
      have hr2 : rowOk (xs.set i y) = true := by
        rw [rowOk_iff] at hr ⊢
        exact ⟨by simp; omega, fun x hx => hr.2 x (List.mem_append_left _ hx)⟩
      have hgi : (xs ++ [sumOf xs]).getD i 0 = xs.getD i 0 := by simp [List.getD, List.getElem?_append_left hlast]
      rw [hgi] at h0 h1 h2
      simp only [sumOf, h, hr2, if_true]
      exact sumTo_set_ne hlast h0 h1 h2
    · have hi' : i = xs.length := by simp at hi; omega
      subst hi'
      rw [List.set_append_right _ _ (Nat.le_refl _), Nat.sub_self]
      have hg : (xs ++ [sumOf xs]).getD xs.length 0 = sumOf xs := by simp [List.getD]
      rw [hg] at h0
      have hg2 : (xs ++ [sumOf xs].set 0 y).getD xs.length 0 = y := by simp [List.getD]
      rw [hg2, List.take_left' rfl]
      exact h0

end Go.Proofs.Ytooahggehgkcdaa
