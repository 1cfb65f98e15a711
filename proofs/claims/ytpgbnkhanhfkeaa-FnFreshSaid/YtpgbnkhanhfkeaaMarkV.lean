/-
  Chapter 9: the marks of drawn entries as a mathematics.
-/
import Derived.Test.YtpgbnkhanhfkeaaMarkN
import Derived.Test.YtpgbnkhanhfkeaaEntD3
import Derived.Test.YtpgbnkhanhfkeaaBookV
namespace Go.Proofs.Ytpgbnkhanhfkeaa
set_option maxRecDepth 100000
open Go.RowKit

def mkM (e : EntM) : MarkM := ⟨e.cl, e.sq, e.idx⟩
/-- The last entry of a client, as a mark; the zero mark if there is none. -/
def lastC (es : List EntM) (c : Int) : MarkM := es.foldl (fun a e => if e.cl = c then mkM e else a) mark0
theorem lastC_snoc (es : List EntM) (e : EntM) (c : Int) : lastC (es ++ [e]) c = if e.cl = c then mkM e else lastC es c := by
  unfold lastC
  rw [List.foldl_append]
  rfl
theorem lastC_take {es : List EntM} {j : Nat} (hj : j < es.length) (c : Int) : lastC (es.take (j + 1)) c = if es[j].cl = c then mkM es[j] else lastC (es.take j) c := by
  rw [List.take_succ_eq_append_getElem hj, lastC_snoc]
theorem find_filter (l : List MarkM) (p q : MarkM → Bool) (h : ∀ x, q x = true → p x = true) : (l.filter p).find? q = l.find? q := by
  induction l with
  | nil => rfl
  | cons x t ih =>
    rw [List.filter_cons, List.find?_cons]
    cases hq : q x with
    | true => rw [h x hq, if_pos rfl, List.find?_cons, hq]
    | false =>
      split
      · rw [List.find?_cons, hq, ih]
      · exact ih
theorem find_filter_none (l : List MarkM) (p q : MarkM → Bool) (h : ∀ x, q x = true → p x = false) : (l.filter p).find? q = none := by
  rw [List.find?_eq_none]
  intro x hx hq
  have := (List.mem_filter.1 hx).2
  rw [h x hq] at this
  cases this
theorem findM_ins (l : List MarkM) (x : MarkM) (c : Int) : findM (insM l x) c = if x.mc = c then x else findM l c := by
  unfold findM insM
  rw [List.find?_append, List.find?_cons]
  by_cases h : x.mc = c
  · rw [if_pos h, find_filter_none l _ _ (fun y hy => by have : y.mc = c := by simpa using hy
                                                         simp; omega), show (x.mc == c) = true by simpa using h]
    rfl
  · rw [if_neg h, show (x.mc == c) = false by simpa using h]
    by_cases h1 : c < x.mc
    · rw [find_filter l (fun y => decide (y.mc < x.mc)) _ (fun y hy => by have : y.mc = c := by simpa using hy
                                                                          simp; omega), find_filter_none l (fun y => decide (x.mc < y.mc)) _ (fun y hy => by have : y.mc = c := by simpa using hy
                                                                                                                                                             simp; omega)]
      simp
    · rw [find_filter l (fun y => decide (x.mc < y.mc)) _ (fun y hy => by have : y.mc = c := by simpa using hy
                                                                          simp; omega), find_filter_none l (fun y => decide (y.mc < x.mc)) _ (fun y hy => by have : y.mc = c := by simpa using hy
                                                                                                                                                             simp; omega)]
      simp
theorem insM_mem {l : List MarkM} {x y : MarkM} (h : y ∈ insM l x) : y = x ∨ y ∈ l := by
  unfold insM at h
  rcases List.mem_append.1 h with h | h
  · exact .inr (List.mem_filter.1 h).1
  · rcases List.mem_cons.1 h with h | h
    · exact .inl h
    · exact .inr (List.mem_filter.1 h).1
theorem insM_self (l : List MarkM) (x : MarkM) : x ∈ insM l x := by
  unfold insM
  simp
theorem overM_find (es : List EntM) (c : Int) : ∀ j, j ≤ es.length → findM (overM [] (es.take j)) c = lastC (es.take j) c := by
  intro j
  induction j with
  | zero => intro _; rw [List.take_zero]; rfl
  | succ k ih =>
    intro hk
    rw [overM_step (show k < es.length by omega), findM_ins, lastC_take (show k < es.length by omega), ih (by omega)]
    rfl
theorem overM_mem (es : List EntM) : ∀ j, j ≤ es.length → ∀ x ∈ overM [] (es.take j), ∃ e ∈ es.take j, x = mkM e := by
  intro j
  induction j with
  | zero => intro _ x hx; rw [List.take_zero] at hx; cases hx
  | succ k ih =>
    intro hk x hx
    rw [overM_step (show k < es.length by omega)] at hx
    rw [List.take_succ_eq_append_getElem (show k < es.length by omega)]
    rcases insM_mem hx with h | h
    · exact ⟨es[k], List.mem_append_right _ (List.mem_singleton.2 rfl), h⟩
    · obtain ⟨e, h1, h2⟩ := ih (by omega) x h
      exact ⟨e, List.mem_append_left _ h1, h2⟩
theorem maxTo_bound (l : List MarkM) (B : Int) (h0 : 0 ≤ B) (h : ∀ x ∈ l, x.mi ≤ B) : ∀ j, j ≤ l.length → maxTo l j ≤ B := by
  intro j
  induction j with
  | zero => intro _; rw [maxTo_zero]; exact h0
  | succ k ih =>
    intro hk
    rw [maxTo_step (show k < l.length by omega)]
    have := h _ (List.getElem_mem (show k < l.length by omega))
    have := ih (by omega)
    omega
theorem lastS_bound {l : List MarkM} {B : Int} (h0 : 0 ≤ B) (h : ∀ x ∈ l, x.mi ≤ B) : lastS l ≤ B := by
  unfold lastS
  split
  · exact maxTo_bound l B h0 h _ (Nat.le_refl _)
  · exact h0
theorem RunS.idx {l : List EntM} (h : RunS l) {j : Nat} (hj : j < l.length) : l[j].idx = (j : Int) + 1 := (h.1 j hj).2.1
theorem RunS.last_le {l : List EntM} (h : RunS l) {j : Nat} (hj : j ≤ l.length) : lastS (overM [] (l.take j)) ≤ (j : Int) := by
  refine lastS_bound (by omega) fun x hx => ?_
  obtain ⟨e, h1, rfl⟩ := overM_mem l j hj x hx
  obtain ⟨i, hi, rfl⟩ := List.getElem_of_mem h1
  rw [List.length_take] at hi
  rw [List.getElem_take]
  show l[i].idx ≤ _
  rw [h.idx (by omega)]
  omega
/-- What was recorded last of a client is no later than what comes. -/
theorem lastC_lt {l : List EntM} : ∀ j (hj : j ≤ l.length) (c s : Int), 1 ≤ s → (∀ i (hi : i < j), l[i].cl = c → l[i].sq < s) → (lastC (l.take j) c).ms < s := by
  intro j
  induction j with
  | zero => intro _ c s hs _; rw [List.take_zero]; exact Int.lt_of_lt_of_le (show (0 : Int) < 1 by decide) hs
  | succ k ih =>
    intro hj c s hs hall
    rw [lastC_take (show k < l.length by omega)]
    split
    next hc => exact hall k (by omega) hc
    next hc => exact ih (by omega) c s hs fun i hi => hall i (by omega)
theorem RunS.lastC_ge {l : List EntM} (h : RunS l) : ∀ j (hj : j ≤ l.length) (i : Nat) (hi : i < j), l[i].sq ≤ (lastC (l.take j) l[i].cl).ms := by
  intro j
  induction j with
  | zero => intro _ i hi; exact absurd hi (by omega)
  | succ k ih =>
    intro hj i hi
    rw [lastC_take (show k < l.length by omega)]
    by_cases e : i = k
    · subst e
      rw [if_pos rfl]
      exact Int.le_refl _
    · split
      next hc => exact Int.le_of_lt ((h.2 k (by omega)).2 i (by omega) hc.symm)
      next hc => exact ih (by omega) i (by omega)
theorem seen_nil : seenB [] = true := rfl
theorem RunS.may {l : List EntM} (h : RunS l) (_hl : l.length ≤ 20) : ∀ j, j < l.length → overAt [] l j = true := by
  have key : ∀ j, j ≤ l.length → ∀ q, q < j → overAt [] l q = true := by
    intro j
    induction j with
    | zero => intro _ q hq; exact absurd hq (by omega)
    | succ k ih =>
      intro hk q hq
      by_cases e : q < k
      · exact ih (by omega) q e
      · obtain rfl : q = k := by omega
        have hok : seenB (overM [] (l.take q)) = true := over_ok seen_nil q (by omega) fun i hi => ih (by omega) i hi
        have hql : q < l.length := by omega
        have he := (entB_iff _).1 (h.1 q hql).1
        unfold overAt
        rw [egetD hql, mayB_iff]
        refine ⟨(h.1 q hql).1, ?_, ?_⟩
        · unfold freshB
          rw [hok, Bool.true_and, Bool.and_eq_true, Bool.and_eq_true, decide_eq_true_eq]
          refine ⟨(inB_iff _ _ _).2 he.2.2.1, (inB_iff _ _ _).2 he.2.2.2.1, ?_⟩
          unfold markOf
          rw [if_pos hok, overM_find l _ q (by omega)]
          exact lastC_lt q (by omega) _ _ he.2.2.2.1.1 fun i hi hc => (h.2 q hql).2 i hi hc
        · have := h.last_le (show q ≤ l.length by omega)
          rw [h.idx hql]
          omega
  intro j hj
  exact key (j + 1) (by omega) j (by omega)
theorem RunS.seen {l : List EntM} (h : RunS l) (hl : l.length ≤ 20) {j : Nat} (hj : j ≤ l.length) : seenB (overM [] (l.take j)) = true := over_ok seen_nil j hj fun q hq => h.may hl q (by omega)
theorem RunS.over {l : List EntM} (h : RunS l) (hl : l.length ≤ 20) (k : Nat) : seenOverM (overM [] (l.take k)) (l.drop k) = (overM [] l, true) := by
  have e0 : overM (overM [] (l.take k)) (l.drop k) = overM [] l := by
    unfold overM
    rw [← List.foldl_append, List.take_append_drop]
  have hs : seenB (overM [] (l.take k)) = true := by
    rcases Nat.lt_or_ge l.length k with h1 | h1
    · rw [List.take_of_length_le (by omega), ← List.take_length (l := l)]; exact h.seen hl (Nat.le_refl _)
    · exact h.seen hl h1
  unfold seenOverM
  rw [if_pos hs, if_pos (by rw [List.length_drop]; omega), if_pos, e0]
  rw [overB_iff]
  intro j hj
  rw [List.length_drop] at hj
  have h1 := h.may hl (k + j) (by omega)
  unfold overAt at h1 ⊢
  rw [egetD (show k + j < l.length by omega)] at h1
  rw [egetD (show j < (l.drop k).length by rw [List.length_drop]; omega), List.getElem_drop]
  have e1 : overM (overM [] (l.take k)) ((l.drop k).take j) = overM [] (l.take (k + j)) := by
    unfold overM
    rw [← List.foldl_append, List.take_add]
  rw [e1]
  exact h1
theorem RunS.over0 {l : List EntM} (h : RunS l) (hl : l.length ≤ 20) : seenOverM [] l = (overM [] l, true) := by
  have := h.over hl 0
  rw [List.take_zero, List.drop_zero] at this
  exact this
theorem RunS.take {l : List EntM} (h : RunS l) (k : Nat) : RunS (l.take k) := by
  refine ⟨h.1.take k, fun j hj => ?_⟩
  rw [List.length_take] at hj
  obtain ⟨a, b⟩ := h.2 j (by omega)
  rw [List.getElem_take]
  exact ⟨a, fun i hi => by rw [List.getElem_take]; exact b i hi⟩
theorem RunS.last {l : List EntM} (h : RunS l) (hl : l.length ≤ 20) : lastS (overM [] l) = (l.length : Int) := by
  have h1 := h.last_le (Nat.le_refl l.length)
  rw [List.take_length] at h1
  by_cases h0 : l.length = 0
  · have : l = [] := List.eq_nil_of_length_eq_zero h0
    subst this
    rfl
  · obtain ⟨k, hk⟩ : ∃ k, l.length = k + 1 := ⟨l.length - 1, by omega⟩
    have hs := h.seen hl (Nat.le_refl l.length)
    rw [List.take_length] at hs
    have hm : mkM (l[k]'(by omega)) ∈ overM [] l := by
      have e : l = l.take (k + 1) := by rw [List.take_of_length_le (by omega)]
      have h5 : overM [] l = overM [] (l.take (k + 1)) := by rw [← e]
      rw [h5, overM_step (show k < l.length by omega)]
      exact insM_self _ _
    have h2 := lastS_ge hs hm
    have h3 : (mkM (l[k]'(by omega))).mi = (k : Int) + 1 := h.idx (show k < l.length by omega)
    omega
theorem RunS.mark {l : List EntM} (h : RunS l) (hl : l.length ≤ 20) (c : Int) : markOf (overM [] l) c = lastC l c := by
  have hs := h.seen hl (Nat.le_refl l.length)
  have h2 := overM_find l c l.length (Nat.le_refl _)
  rw [List.take_length] at hs h2
  unfold markOf
  rw [if_pos hs, h2]
theorem RunS.fresh {l : List EntM} (h : RunS l) (hl : l.length ≤ 20) {j : Nat} (hj : j < l.length) : freshB (overM [] (l.take j)) l[j].cl l[j].sq = true := by
  have := h.may hl j hj
  unfold overAt at this
  rw [egetD hj, mayB_iff] at this
  exact this.2.1
theorem RunS.marked {l : List EntM} (h : RunS l) (hl : l.length ≤ 20) {j : Nat} (hj : j < l.length) : markedM (overM [] (l.take j)) l[j] = (overM [] (l.take (j + 1)), true) := by
  rw [marked_more (h.seen hl (by omega)) hj, if_pos (h.may hl j hj)]
theorem RunS.stale {l : List EntM} (h : RunS l) {i k : Nat} (hi : i < l.length) (hk : k ≤ i) : freshB (overM [] (l.take (i + 1))) (l[k]'(by omega)).cl (l[k]'(by omega)).sq = false := by
  rw [Bool.eq_false_iff]
  intro h9
  unfold freshB at h9
  rw [Bool.and_eq_true, Bool.and_eq_true, Bool.and_eq_true, decide_eq_true_eq] at h9
  obtain ⟨hs, _, _, h8⟩ := h9
  unfold markOf at h8
  rw [if_pos hs, overM_find l _ (i + 1) (by omega)] at h8
  have := h.lastC_ge (i + 1) (by omega) k (by omega)
  omega
theorem RunS.later {l : List EntM} (h : RunS l) (hl : l.length ≤ 20) {i : Nat} (hi : i < l.length) : freshB (overM [] (l.take (i + 1))) l[i].cl (l[i].sq + 1) = true := by
  have hs := h.seen hl (show i + 1 ≤ l.length by omega)
  have he := (entB_iff _).1 (h.1 i hi).1
  have hb := (h.2 i hi).1
  unfold freshB
  rw [hs, Bool.true_and, Bool.and_eq_true, Bool.and_eq_true, decide_eq_true_eq]
  refine ⟨(inB_iff _ _ _).2 he.2.2.1, (inB_iff _ _ _).2 (by omega), ?_⟩
  unfold markOf
  rw [if_pos hs, overM_find l _ (i + 1) (by omega), lastC_take hi, if_pos rfl]
  show l[i].sq < l[i].sq + 1
  omega
/-- An entry that is not fresh is not recorded. -/
theorem marked_stale {l : List MarkM} {e : EntM} (hs : seenB l = true) (h : freshB l e.cl e.sq = false) : markedM l e = (l, false) := by
  unfold markedM
  rw [if_pos hs, if_neg]
  intro h9
  rw [mayB_iff, h] at h9
  exact absurd h9.2.1 (by decide)

end Go.Proofs.Ytpgbnkhanhfkeaa
