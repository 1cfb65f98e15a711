/- Parts of my texts: BookV MarkV RecD RecE RecF MarkC. -/
import Derived.Test.YtmjifhjhialcbaaT7
import Derived.Test.YtmjifhjhialcbaaT11
namespace Go.Proofs.Ytmjifhjhialcbaa
set_option maxRecDepth 100000
set_option linter.unusedVariables false
open Go.RowKit
theorem RunL.take {l : List EntM} (h : RunL l) (k : Nat) : RunL (l.take k) := by
 intro j hj
 rw [List.length_take] at hj
 have hjl : j < l.length := by omega
 rw [List.getElem_take]
 exact ⟨(h j hjl).1, (h j hjl).2.1, fun i hi => by rw [List.getElem_take]; exact (h j hjl).2.2 i hi⟩
theorem RunL.ent {l : List EntM} (h : RunL l) {j : Nat} (hj : j < l.length) : entB l[j] = true ∧ l[j].idx = (j : Int) + 1 ∧ 0 ≤ l[j].tm := by
 have h1 := (entB_iff _).1 (h j hj).1
 exact ⟨(h j hj).1, (h j hj).2.1, h1.2.1.1⟩
theorem RunL.book {l : List EntM} (h : RunL l) (hl : l.length ≤ 20) : bookB ⟨0, 0, l⟩ = true := by
 rw [bookB_iff]
 refine ⟨by simp, by simp, .inr rfl, hl, h.ok (by show l.length ≤ 2000; omega), ?_⟩
 unfold headB
 show (decide (l.length = 0) || (decide ((l.getD 0 ent0).idx = 0 + 1) && decide (0 ≤ (l.getD 0 ent0).tm))) = true
 by_cases h0 : l.length = 0
 · rw [decide_eq_true h0, Bool.true_or]
 · have h1 : 0 < l.length := by omega
   obtain ⟨_, h2, h3⟩ := h.ent h1
   rw [egetD h1, decide_eq_true (show l[0].idx = 0 + 1 by rw [h2]; rfl), decide_eq_true h3]
   simp
theorem RunL.next {l : List EntM} (h : RunL l) (hl : l.length ≤ 20) {j : Nat} (hj : j < l.length) : nextB ⟨0, 0, l.take j⟩ l[j] = true := by
 obtain ⟨h1, h2, h3⟩ := h.ent hj
 have hlen : (l.take j).length = j := by rw [List.length_take]; omega
 rw [nextB_iff]
 refine ⟨h1, ?_, ?_, ?_⟩
 · rw [h2]
   unfold lastB
   show (j : Int) + 1 = 0 + ((l.take j).length : Int) + 1
   omega
 · by_cases h0 : j = 0
   · subst h0
     rw [timeAt_none (by show (l.take 0).length = 0; omega)]
     exact h3
   · rw [timeAt_last (by show 0 < (l.take j).length; omega)]
     show ((l.take j).getD ((l.take j).length - 1) ent0).tm ≤ _
     rw [hlen, egetD (show j - 1 < (l.take j).length by omega), List.getElem_take]
     exact (h j hj).2.2 (j - 1) (by omega)
 · show (l.take j).length ≠ 20
   omega
theorem RunL.last {l : List EntM} (h : RunL l) (hl : l.length ≤ 20) : lastM ⟨0, 0, l⟩ = (l.length : Int) := by
 unfold lastM lastB
 rw [if_pos (h.book hl)]
 show (0 : Int) + (l.length : Int) = _
 omega
theorem RunL.filter {l : List EntM} (h : RunL l) (f : Nat) (hf : 1 ≤ f) : (l.filter fun e => decide ((f : Int) ≤ e.idx)) = l.drop (f - 1) := by
 have hl : l = l.take (f - 1) ++ l.drop (f - 1) := (List.take_append_drop _ _).symm
 have e1 : ((l.take (f - 1)).filter fun e => decide ((f : Int) ≤ e.idx)) = [] := by
  rw [List.filter_eq_nil_iff]
  intro x hx
  obtain ⟨j, hj, rfl⟩ := List.getElem_of_mem hx
  rw [List.length_take] at hj
  rw [List.getElem_take, (h j (by omega)).2.1]
  simp
  omega
 have e2 : ((l.drop (f - 1)).filter fun e => decide ((f : Int) ≤ e.idx)) = l.drop (f - 1) := by
  rw [List.filter_eq_self]
  intro x hx
  obtain ⟨j, hj, rfl⟩ := List.getElem_of_mem hx
  rw [List.length_drop] at hj
  rw [List.getElem_drop, (h (f - 1 + j) (by omega)).2.1]
  simp
  omega
 conv => lhs; rw [hl]
 rw [List.filter_append, e1, e2, List.nil_append]
def mkM (e : EntM) : MarkM := ⟨e.cl, e.sq, e.idx⟩
def lastC (es : List EntM) (c : Int) : MarkM := es.foldl (fun a e => if e.cl = c then mkM e else a) mark0
theorem lastC_snoc (es : List EntM) (e : EntM) (c : Int) : lastC (es ++ [e]) c = if e.cl = c then mkM e else lastC es c := by
 unfold lastC
 rw [List.foldl_append]
 rfl
theorem lastC_take {es : List EntM} {j : Nat} (hj : j < es.length) (c : Int) : lastC (es.take (j + 1)) c = if es[j].cl = c then mkM es[j] else lastC (es.take j) c := by
 rw [List.take_succ_eq_append_getElem hj, lastC_snoc]
theorem find_filter (l : List MarkM) (p q : MarkM → Bool) (h : ∀ x, q x = true → p x = true) : (l.filter p).find? q = l.find? q := by
 induction l with
 | nil => rfl
 | cons x t ih =>
  rw [List.filter_cons, List.find?_cons]
  cases hq : q x with
  | true => rw [h x hq, if_pos rfl, List.find?_cons, hq]
  | false =>
   split
   · rw [List.find?_cons, hq, ih]
   · exact ih
theorem find_filter_none (l : List MarkM) (p q : MarkM → Bool) (h : ∀ x, q x = true → p x = false) : (l.filter p).find? q = none := by
 rw [List.find?_eq_none]
 intro x hx hq
 have := (List.mem_filter.1 hx).2
 rw [h x hq] at this
 cases this
theorem findM_ins (l : List MarkM) (x : MarkM) (c : Int) : findM (insM l x) c = if x.mc = c then x else findM l c := by
 unfold findM insM
 rw [List.find?_append, List.find?_cons]
 by_cases h : x.mc = c
 · rw [if_pos h, find_filter_none l _ _ (fun y hy => by have : y.mc = c := by simpa using hy
                                                        simp; omega), show (x.mc == c) = true by simpa using h]
   rfl
 · rw [if_neg h, show (x.mc == c) = false by simpa using h]
   by_cases h1 : c < x.mc
   · rw [find_filter l (fun y => decide (y.mc < x.mc)) _ (fun y hy => by have : y.mc = c := by simpa using hy
                                                                         simp; omega), find_filter_none l (fun y => decide (x.mc < y.mc)) _ (fun y hy => by have : y.mc = c := by simpa using hy
                                                                                                                                                            simp; omega)]
     simp
   · rw [find_filter l (fun y => decide (x.mc < y.mc)) _ (fun y hy => by have : y.mc = c := by simpa using hy
                                                                         simp; omega), find_filter_none l (fun y => decide (y.mc < x.mc)) _ (fun y hy => by have : y.mc = c := by simpa using hy
                                                                                                                                                            simp; omega)]
     simp
theorem insM_mem {l : List MarkM} {x y : MarkM} (h : y ∈ insM l x) : y = x ∨ y ∈ l := by
 unfold insM at h
 rcases List.mem_append.1 h with h | h
 · exact .inr (List.mem_filter.1 h).1
 · rcases List.mem_cons.1 h with h | h
   · exact .inl h
   · exact .inr (List.mem_filter.1 h).1
theorem insM_self (l : List MarkM) (x : MarkM) : x ∈ insM l x := by
 unfold insM
 simp
theorem overM_find (es : List EntM) (c : Int) : ∀ j, j ≤ es.length → findM (overM [] (es.take j)) c = lastC (es.take j) c := by
 intro j
 induction j with
 | zero => intro _; rw [List.take_zero]; rfl
 | succ k ih =>
  intro hk
  rw [overM_step (show k < es.length by omega), findM_ins, lastC_take (show k < es.length by omega), ih (by omega)]
  rfl
theorem overM_mem (es : List EntM) : ∀ j, j ≤ es.length → ∀ x ∈ overM [] (es.take j), ∃ e ∈ es.take j, x = mkM e := by
 intro j
 induction j with
 | zero => intro _ x hx; rw [List.take_zero] at hx; cases hx
 | succ k ih =>
  intro hk x hx
  rw [overM_step (show k < es.length by omega)] at hx
  rw [List.take_succ_eq_append_getElem (show k < es.length by omega)]
  rcases insM_mem hx with h | h
  · exact ⟨es[k], List.mem_append_right _ (List.mem_singleton.2 rfl), h⟩
  · obtain ⟨e, h1, h2⟩ := ih (by omega) x h
    exact ⟨e, List.mem_append_left _ h1, h2⟩
theorem maxTo_bound (l : List MarkM) (B : Int) (h0 : 0 ≤ B) (h : ∀ x ∈ l, x.mi ≤ B) : ∀ j, j ≤ l.length → maxTo l j ≤ B := by
 intro j
 induction j with
 | zero => intro _; rw [maxTo_zero]; exact h0
 | succ k ih =>
  intro hk
  rw [maxTo_step (show k < l.length by omega)]
  have := h _ (List.getElem_mem (show k < l.length by omega))
  have := ih (by omega)
  omega
theorem lastS_bound {l : List MarkM} {B : Int} (h0 : 0 ≤ B) (h : ∀ x ∈ l, x.mi ≤ B) : lastS l ≤ B := by
 unfold lastS
 split
 · exact maxTo_bound l B h0 h _ (Nat.le_refl _)
 · exact h0
theorem RunS.idx {l : List EntM} (h : RunS l) {j : Nat} (hj : j < l.length) : l[j].idx = (j : Int) + 1 := (h.1 j hj).2.1
theorem RunS.last_le {l : List EntM} (h : RunS l) {j : Nat} (hj : j ≤ l.length) : lastS (overM [] (l.take j)) ≤ (j : Int) := by
 refine lastS_bound (by omega) fun x hx => ?_
 obtain ⟨e, h1, rfl⟩ := overM_mem l j hj x hx
 obtain ⟨i, hi, rfl⟩ := List.getElem_of_mem h1
 rw [List.length_take] at hi
 rw [List.getElem_take]
 show l[i].idx ≤ _
 rw [h.idx (by omega)]
 omega
theorem lastC_lt {l : List EntM} : ∀ j (hj : j ≤ l.length) (c s : Int), 1 ≤ s → (∀ i (hi : i < j), l[i].cl = c → l[i].sq < s) → (lastC (l.take j) c).ms < s := by
 intro j
 induction j with
 | zero => intro _ c s hs _; rw [List.take_zero]; exact Int.lt_of_lt_of_le (show (0 : Int) < 1 by decide) hs
 | succ k ih =>
  intro hj c s hs hall
  rw [lastC_take (show k < l.length by omega)]
  split
  next hc => exact hall k (by omega) hc
  next hc => exact ih (by omega) c s hs fun i hi => hall i (by omega)
theorem RunS.lastC_ge {l : List EntM} (h : RunS l) : ∀ j (hj : j ≤ l.length) (i : Nat) (hi : i < j), l[i].sq ≤ (lastC (l.take j) l[i].cl).ms := by
 intro j
 induction j with
 | zero => intro _ i hi; exact absurd hi (by omega)
 | succ k ih =>
  intro hj i hi
  rw [lastC_take (show k < l.length by omega)]
  by_cases e : i = k
  · subst e
    rw [if_pos rfl]
    exact Int.le_refl _
  · split
    next hc => exact Int.le_of_lt ((h.2 k (by omega)).2 i (by omega) hc.symm)
    next hc => exact ih (by omega) i (by omega)
theorem seen_nil : seenB [] = true := rfl
theorem RunS.may {l : List EntM} (h : RunS l) (_hl : l.length ≤ 20) : ∀ j, j < l.length → overAt [] l j = true := by
 have key : ∀ j, j ≤ l.length → ∀ q, q < j → overAt [] l q = true := by
  intro j
  induction j with
  | zero => intro _ q hq; exact absurd hq (by omega)
  | succ k ih =>
   intro hk q hq
   by_cases e : q < k
   · exact ih (by omega) q e
   · obtain rfl : q = k := by omega
     have hok : seenB (overM [] (l.take q)) = true := over_ok seen_nil q (by omega) fun i hi => ih (by omega) i hi
     have hql : q < l.length := by omega
     have he := (entB_iff _).1 (h.1 q hql).1
     unfold overAt
     rw [egetD hql, mayB_iff]
     refine ⟨(h.1 q hql).1, ?_, ?_⟩
     · unfold freshB
       rw [hok, Bool.true_and, Bool.and_eq_true, Bool.and_eq_true, decide_eq_true_eq]
       refine ⟨(inB_iff _ _ _).2 he.2.2.1, (inB_iff _ _ _).2 he.2.2.2.1, ?_⟩
       unfold markOf
       rw [if_pos hok, overM_find l _ q (by omega)]
       exact lastC_lt q (by omega) _ _ he.2.2.2.1.1 fun i hi hc => (h.2 q hql).2 i hi hc
     · have := h.last_le (show q ≤ l.length by omega)
       rw [h.idx hql]
       omega
 intro j hj
 exact key (j + 1) (by omega) j (by omega)
theorem RunS.seen {l : List EntM} (h : RunS l) (hl : l.length ≤ 20) {j : Nat} (hj : j ≤ l.length) : seenB (overM [] (l.take j)) = true := over_ok seen_nil j hj fun q hq => h.may hl q (by omega)
theorem RunS.over {l : List EntM} (h : RunS l) (hl : l.length ≤ 20) (k : Nat) : seenOverM (overM [] (l.take k)) (l.drop k) = (overM [] l, true) := by
 have e0 : overM (overM [] (l.take k)) (l.drop k) = overM [] l := by
  unfold overM
  rw [← List.foldl_append, List.take_append_drop]
 have hs : seenB (overM [] (l.take k)) = true := by
  rcases Nat.lt_or_ge l.length k with h1 | h1
  · rw [List.take_of_length_le (by omega), ← List.take_length (l := l)]; exact h.seen hl (Nat.le_refl _)
  · exact h.seen hl h1
 unfold seenOverM
 rw [if_pos hs, if_pos (by rw [List.length_drop]; omega), if_pos, e0]
 rw [overB_iff]
 intro j hj
 rw [List.length_drop] at hj
 have h1 := h.may hl (k + j) (by omega)
 unfold overAt at h1 ⊢
 rw [egetD (show k + j < l.length by omega)] at h1
 rw [egetD (show j < (l.drop k).length by rw [List.length_drop]; omega), List.getElem_drop]
 have e1 : overM (overM [] (l.take k)) ((l.drop k).take j) = overM [] (l.take (k + j)) := by
  unfold overM
  rw [← List.foldl_append, List.take_add]
 rw [e1]
 exact h1
theorem RunS.over0 {l : List EntM} (h : RunS l) (hl : l.length ≤ 20) : seenOverM [] l = (overM [] l, true) := by
 have := h.over hl 0
 rw [List.take_zero, List.drop_zero] at this
 exact this
theorem RunS.take {l : List EntM} (h : RunS l) (k : Nat) : RunS (l.take k) := by
 refine ⟨h.1.take k, fun j hj => ?_⟩
 rw [List.length_take] at hj
 obtain ⟨a, b⟩ := h.2 j (by omega)
 rw [List.getElem_take]
 exact ⟨a, fun i hi => by rw [List.getElem_take]; exact b i hi⟩
theorem RunS.last {l : List EntM} (h : RunS l) (hl : l.length ≤ 20) : lastS (overM [] l) = (l.length : Int) := by
 have h1 := h.last_le (Nat.le_refl l.length)
 rw [List.take_length] at h1
 by_cases h0 : l.length = 0
 · have : l = [] := List.eq_nil_of_length_eq_zero h0
   subst this
   rfl
 · obtain ⟨k, hk⟩ : ∃ k, l.length = k + 1 := ⟨l.length - 1, by omega⟩
   have hs := h.seen hl (Nat.le_refl l.length)
   rw [List.take_length] at hs
   have hm : mkM (l[k]'(by omega)) ∈ overM [] l := by
    have e : l = l.take (k + 1) := by rw [List.take_of_length_le (by omega)]
    have h5 : overM [] l = overM [] (l.take (k + 1)) := by rw [← e]
    rw [h5, overM_step (show k < l.length by omega)]
    exact insM_self _ _
   have h2 := lastS_ge hs hm
   have h3 : (mkM (l[k]'(by omega))).mi = (k : Int) + 1 := h.idx (show k < l.length by omega)
   omega
def twin (d : DiskM) : TwoM := ⟨d, d⟩
theorem twin_ok {d : DiskM} (h : diskOk d = true) : twoOk (twin d) = true := twoOk_iff.2 ⟨h, h, rfl⟩
theorem headZ_ok : headOkB headZ = true := by decide
theorem headZ_row : rowHeadM (headRowM headZ) = (headZ, true) := head_back headZ_ok
theorem run_ents {L : List EntM} (h : RunS L) : ∀ e ∈ L, entB e = true := fun e he => by
 obtain ⟨j, hj, rfl⟩ := List.getElem_of_mem he
 exact (h.1 j hj).1
def zeroRows : List (List Int) := (List.replicate 22 ([] : List Int)).set 0 (withSum (headRowM headZ))
theorem replicate_ok : diskOk ⟨List.replicate 22 [], []⟩ = true := by decide
theorem newKept_twin : newKeptM = twin ⟨zeroRows, []⟩ ∧ keptB (twin ⟨zeroRows, []⟩) = true := by
 have h0 : newTwo 22 = ⟨⟨List.replicate 22 [], []⟩, ⟨List.replicate 22 [], []⟩⟩ := rfl
 have h1 : twoOk ⟨⟨List.replicate 22 [], []⟩, ⟨List.replicate 22 [], []⟩⟩ = true := twin_ok replicate_ok
 obtain ⟨r1, r2⟩ := headRow_ok headZ_ok
 have h2 := mended_two h1 (I := 0) (by simp) r1 (by omega)
 have h3 : newKeptM = twin ⟨zeroRows, []⟩ := by
  unfold newKeptM
  rw [h0]
  exact h2
 refine ⟨h3, (keptB_iff _).2 ⟨?_, by simp [twin, zeroRows]⟩⟩
 exact two_set h1 (withSum_ok r1 (by omega))
theorem row_of {r r' : List Int} (h : rowOk r = true) (hl : r.length < 48) (he : unsummed (withSum r) = (r', true)) : r' = r := by
 rw [uns_with h hl] at he
 exact (congrArg Prod.fst he).symm
theorem zero_at {I : Nat} (h1 : 1 ≤ I) (h2 : I < 22) : zeroRows.getD I [] = [] := by
 unfold zeroRows
 rw [getD_setL (by simpa using h2), if_neg (by omega), List.getD_eq_getElem?_getD, List.getElem?_replicate, if_pos h2]
 rfl
theorem zero_0 : zeroRows.getD 0 [] = withSum (headRowM headZ) := rfl
def MadeMB (w : World) (r : List MarkM × Bool) (e : Ending) (w' : World) : Prop :=
 ∃ (A : Option Addr) (n c : Nat), e = .returned (.tuple #[.slice A n c, .bool r.2]) ∧ Has w' w.heap.size [mrkD r.1] [.slice A n c] ∧ Below w.heap.size w w'
def CSeenOver (p : Nat) : Prop := ∀ (A : Option Addr) (n cc : Nat) (l : List MarkM) (A5 : Option Addr) (n5 c5 : Nat) (es : List EntM) (w : World), Rd w w.heap.size [mrkD l] [.slice A n cc] → mrkSz l ≤ 1048577 → Rd w w.heap.size [entD es] [.slice A5 n5 c5] → entSz es ≤ 1048577 → Calls Try.prog p #[.slice A n cc, .slice A5 n5 c5] w (MadeMB w (seenOverM l es))
def CSameSeen (p : Nat) : Prop := ∀ (A : Option Addr) (n cc : Nat) (l : List MarkM) (A2 : Option Addr) (n2 c2 : Nat) (r : List MarkM) (w : World), Rd w w.heap.size [mrkD l] [.slice A n cc] → mrkSz l ≤ 1048577 → Rd w w.heap.size [mrkD r] [.slice A2 n2 c2] → mrkSz r ≤ 1048577 → Calls Try.prog p #[.slice A n cc, .slice A2 n2 c2] w (fun e w' => e = .returned (.bool (sameMs l r)) ∧ Below w.heap.size w w')
end Go.Proofs.Ytmjifhjhialcbaa
