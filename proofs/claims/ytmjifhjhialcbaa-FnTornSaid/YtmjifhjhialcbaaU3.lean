/- Parts of my texts: MarkN. -/
import Derived.Test.YtmjifhjhialcbaaU2
namespace Go.Proofs.Ytmjifhjhialcbaa
set_option maxRecDepth 100000
set_option linter.unusedVariables false
open Go.RowKit
theorem seenAt_all {l : List MarkM} (h : seenB l = true) {j : Nat} (hj : j < l.length) : markB l[j] = true ∧ (∀ k, k + 1 = j → (l.getD k mark0).mc < l[j].mc) ∧ ∀ q, q < j → (l.getD q mark0).mi ≠ l[j].mi := by
 have h1 := ((seenB_iff l).1 h).2 j hj
 unfold seenAt riseAt at h1
 rw [mgetD hj, Bool.and_eq_true, Bool.and_eq_true, freeTo_iff, mgetD hj] at h1
 refine ⟨h1.1.1, fun k hk => ?_, h1.2⟩
 have h2 := h1.1.2
 subst hk
 rw [decide_eq_false (show ¬ k + 1 = 0 by omega), Bool.false_or, decide_eq_true_eq, Nat.add_sub_cancel] at h2
 exact h2
theorem seen_rise {l : List MarkM} (h : seenB l = true) : ∀ j (hj : j < l.length) q (hq : q < j), (l[q]'(by omega)).mc < l[j].mc := by
 intro j
 induction j with
 | zero => intro _ q hq; exact absurd hq (by omega)
 | succ k ih =>
  intro hj q hq
  have h1 := (seenAt_all h hj).2.1 k rfl
  rw [mgetD (show k < l.length by omega)] at h1
  by_cases e : q = k
  · subst e; exact h1
  · have h2 := ih (by omega) q (by omega)
    omega
theorem seen_pairs {l : List MarkM} (h : seenB l = true) : (∀ x ∈ l, markB x = true) ∧ l.Pairwise (fun a b => a.mc < b.mc) ∧ l.Pairwise (fun a b => a.mi ≠ b.mi) := by
 refine ⟨fun x hx => ?_, ?_, ?_⟩
 · obtain ⟨j, hj, rfl⟩ := List.getElem_of_mem hx
   exact seen_mark h hj
 · rw [List.pairwise_iff_getElem]
   intro i j hi hj hij
   exact seen_rise h j hj i hij
 · rw [List.pairwise_iff_getElem]
   intro i j hi hj hij
   have := (seenAt_all h hj).2.2 i hij
   rwa [mgetD hi] at this
theorem seen_of {l : List MarkM} (h1 : ∀ x ∈ l, markB x = true) (h2 : l.Pairwise (fun a b => a.mc < b.mc)) (h3 : l.Pairwise (fun a b => a.mi ≠ b.mi)) : seenB l = true := by
 rw [List.pairwise_iff_getElem] at h2 h3
 have hlow : ∀ j (hj : j < l.length), (j : Int) + 2 ≤ l[j].mc := by
  intro j
  induction j with
  | zero =>
   intro hj
   have := ((markB_iff _).1 (h1 _ (List.getElem_mem hj))).1
   simp
   omega
  | succ k ih =>
   intro hj
   have h4 := ih (by omega)
   have h5 := h2 k (k + 1) (by omega) hj (by omega)
   omega
 rw [seenB_iff]
 constructor
 · rcases Nat.lt_or_ge 4 l.length with h4 | h4
   · have h5 := hlow 4 h4
     have h6 := ((markB_iff _).1 (h1 _ (List.getElem_mem h4))).1
     omega
   · exact h4
 · intro j hj
   unfold seenAt riseAt
   rw [mgetD hj, h1 _ (List.getElem_mem hj), Bool.true_and, Bool.and_eq_true, freeTo_iff]
   refine ⟨?_, fun q hq => ?_⟩
   · rcases Nat.eq_zero_or_pos j with h0 | h0
     · rw [decide_eq_true h0, Bool.true_or]
     · rw [mgetD (show j - 1 < l.length by omega), decide_eq_true (h2 (j - 1) j (by omega) hj (by omega)), Bool.or_true]
   · rw [mgetD (show q < l.length by omega), mgetD hj]
     exact h3 q j (by omega) hj hq
theorem maxTo_le (l : List MarkM) : ∀ j, j ≤ l.length → ∀ q (_hq : q < j) (hl : q < l.length), l[q].mi ≤ maxTo l j := by
 intro j
 induction j with
 | zero => intro _ q hq; exact absurd hq (by omega)
 | succ k ih =>
  intro hk q hq hl
  rw [maxTo_step (show k < l.length by omega)]
  by_cases e : q = k
  · subst e; omega
  · have := ih (by omega) q (by omega) hl
    omega
theorem lastS_ge {l : List MarkM} (h : seenB l = true) {x : MarkM} (hx : x ∈ l) : x.mi ≤ lastS l := by
 unfold lastS
 rw [if_pos h]
 obtain ⟨j, hj, rfl⟩ := List.getElem_of_mem hx
 exact maxTo_le l l.length (Nat.le_refl _) j hj hj
theorem insM_ok {l : List MarkM} {x : MarkM} (h : seenB l = true) (hx : markB x = true) (hm : lastS l < x.mi) : seenB (insM l x) = true := by
 obtain ⟨h1, h2, h3⟩ := seen_pairs h
 have hne : ∀ y ∈ l, ∀ z ∈ l, y ≠ z → y.mi ≠ z.mi := by
  intro y hy z hz hyz
  obtain ⟨i, hi, rfl⟩ := List.getElem_of_mem hy
  obtain ⟨j, hj, rfl⟩ := List.getElem_of_mem hz
  rw [List.pairwise_iff_getElem] at h3
  rcases Nat.lt_trichotomy i j with h4 | h4 | h4
  · exact h3 i j hi hj h4
  · subst h4; exact absurd rfl hyz
  · exact (h3 j i hj hi h4).symm
 unfold insM
 refine seen_of (fun y hy => ?_) ?_ ?_
 · rcases List.mem_append.1 hy with h4 | h4
   · exact h1 y (List.mem_filter.1 h4).1
   · rcases List.mem_cons.1 h4 with rfl | h4
     · exact hx
     · exact h1 y (List.mem_filter.1 h4).1
 · rw [List.pairwise_append, List.pairwise_cons]
   refine ⟨h2.filter _, ⟨fun z hz => by simpa using (List.mem_filter.1 hz).2, h2.filter _⟩, fun y hy z hz => ?_⟩
   have hy2 : y.mc < x.mc := by simpa using (List.mem_filter.1 hy).2
   rcases List.mem_cons.1 hz with rfl | hz
   · exact hy2
   · have hz2 : x.mc < z.mc := by simpa using (List.mem_filter.1 hz).2
     omega
 · rw [List.pairwise_append, List.pairwise_cons]
   refine ⟨h3.filter _, ⟨fun z hz => ?_, h3.filter _⟩, fun y hy z hz => ?_⟩
   · have := lastS_ge h (List.mem_filter.1 hz).1
     omega
   · have hy2 : y.mc < x.mc := by simpa using (List.mem_filter.1 hy).2
     have hy1 := (List.mem_filter.1 hy).1
     rcases List.mem_cons.1 hz with rfl | hz
     · have := lastS_ge h hy1
       omega
     · have hz2 : x.mc < z.mc := by simpa using (List.mem_filter.1 hz).2
       refine hne y hy1 z (List.mem_filter.1 hz).1 (fun e => ?_)
       rw [e] at hy2
       omega
theorem mayB_iff (l : List MarkM) (e : EntM) : mayB l e = true ↔ entB e = true ∧ freshB l e.cl e.sq = true ∧ lastS l < e.idx := by
 unfold mayB
 simp only [Bool.and_eq_true, decide_eq_true_eq]
theorem marked_ok {l : List MarkM} {e : EntM} (h : seenB l = true) (hm : mayB l e = true) : seenB (insM l ⟨e.cl, e.sq, e.idx⟩) = true := by
 obtain ⟨h1, _, h3⟩ := (mayB_iff l e).1 hm
 have h4 := (entB_iff e).1 h1
 exact insM_ok h ((markB_iff _).2 ⟨h4.2.2.1, h4.2.2.2.1, h4.1⟩) h3
theorem overB_iff (l : List MarkM) (es : List EntM) : overB l es = true ↔ ∀ j, j < es.length → overAt l es j = true := by
 unfold overB
 simp only [List.all_eq_true, List.mem_range]
theorem overB_step {l : List MarkM} {es : List EntM} {j : Nat} (hj : j < es.length) (h : overAt l es j = false) : overB l es = false := by
 rw [Bool.eq_false_iff]
 intro h2
 have := (overB_iff l es).1 h2 j hj
 rw [h] at this
 cases this
theorem over_ok {l : List MarkM} {es : List EntM} (h : seenB l = true) : ∀ j, j ≤ es.length → (∀ q, q < j → overAt l es q = true) → seenB (overM l (es.take j)) = true := by
 intro j
 induction j with
 | zero => intro _ _; rw [List.take_zero]; exact h
 | succ k ih =>
  intro hk hall
  have h1 := ih (by omega) fun q hq => hall q (by omega)
  have h2 := hall k (by omega)
  unfold overAt at h2
  rw [egetD (show k < es.length by omega)] at h2
  rw [overM_step (show k < es.length by omega)]
  exact marked_ok h1 h2
theorem marked_more {l : List MarkM} {es : List EntM} {j : Nat} (hok : seenB (overM l (es.take j)) = true) (hj : j < es.length) : markedM (overM l (es.take j)) es[j] = if overAt l es j = true then (overM l (es.take (j + 1)), true) else (overM l (es.take j), false) := by
 unfold markedM overAt
 rw [if_pos hok, egetD hj, overM_step hj]
end Go.Proofs.Ytmjifhjhialcbaa
