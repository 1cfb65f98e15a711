/- Parts of my texts: MarkV RecE RecF MarkC MarkO MarkS1. -/
import Derived.Test.YtmjifhjhialcbaaU9
import Derived.Laws.EntriesVeiled
namespace Go.Proofs.Ytmjifhjhialcbaa
set_option maxRecDepth 100000
set_option linter.unusedVariables false
open Go.RowKit
def mkM (e : EntM) : MarkM := ⟨e.cl, e.sq, e.idx⟩
def lastC (es : List EntM) (c : Int) : MarkM := es.foldl (fun a e => if e.cl = c then mkM e else a) mark0
theorem lastC_snoc (es : List EntM) (e : EntM) (c : Int) : lastC (es ++ [e]) c = if e.cl = c then mkM e else lastC es c := by
 unfold lastC
 rw [List.foldl_append]
 rfl
theorem lastC_take {es : List EntM} {j : Nat} (hj : j < es.length) (c : Int) : lastC (es.take (j + 1)) c = if es[j].cl = c then mkM es[j] else lastC (es.take j) c := by
 rw [List.take_succ_eq_append_getElem hj, lastC_snoc]
theorem find_filter (l : List MarkM) (p q : MarkM → Bool) (h : ∀ x, q x = true → p x = true) : (l.filter p).find? q = l.find? q := by
 induction l with
 | nil => rfl
 | cons x t ih =>
  rw [List.filter_cons, List.find?_cons]
  cases hq : q x with
  | true => rw [h x hq, if_pos rfl, List.find?_cons, hq]
  | false =>
   split
   · rw [List.find?_cons, hq, ih]
   · exact ih
theorem find_filter_none (l : List MarkM) (p q : MarkM → Bool) (h : ∀ x, q x = true → p x = false) : (l.filter p).find? q = none := by
 rw [List.find?_eq_none]
 intro x hx hq
 have := (List.mem_filter.1 hx).2
 rw [h x hq] at this
 cases this
theorem findM_ins (l : List MarkM) (x : MarkM) (c : Int) : findM (insM l x) c = if x.mc = c then x else findM l c := by
 unfold findM insM
 rw [List.find?_append, List.find?_cons]
 by_cases h : x.mc = c
 · rw [if_pos h, find_filter_none l _ _ (fun y hy => by have : y.mc = c := by simpa using hy
                                                        simp; omega), show (x.mc == c) = true by simpa using h]
   rfl
 · rw [if_neg h, show (x.mc == c) = false by simpa using h]
   by_cases h1 : c < x.mc
   · rw [find_filter l (fun y => decide (y.mc < x.mc)) _ (fun y hy => by have : y.mc = c := by simpa using hy
                                                                         simp; omega), find_filter_none l (fun y => decide (x.mc < y.mc)) _ (fun y hy => by have : y.mc = c := by simpa using hy
                                                                                                                                                            simp; omega)]
     simp
   · rw [find_filter l (fun y => decide (x.mc < y.mc)) _ (fun y hy => by have : y.mc = c := by simpa using hy
                                                                         simp; omega), find_filter_none l (fun y => decide (y.mc < x.mc)) _ (fun y hy => by have : y.mc = c := by simpa using hy
                                                                                                                                                            simp; omega)]
     simp
theorem insM_mem {l : List MarkM} {x y : MarkM} (h : y ∈ insM l x) : y = x ∨ y ∈ l := by
 unfold insM at h
 rcases List.mem_append.1 h with h | h
 · exact .inr (List.mem_filter.1 h).1
 · rcases List.mem_cons.1 h with h | h
   · exact .inl h
   · exact .inr (List.mem_filter.1 h).1
theorem insM_self (l : List MarkM) (x : MarkM) : x ∈ insM l x := by
 unfold insM
 simp
theorem overM_find (es : List EntM) (c : Int) : ∀ j, j ≤ es.length → findM (overM [] (es.take j)) c = lastC (es.take j) c := by
 intro j
 induction j with
 | zero => intro _; rw [List.take_zero]; rfl
 | succ k ih =>
  intro hk
  rw [overM_step (show k < es.length by omega), findM_ins, lastC_take (show k < es.length by omega), ih (by omega)]
  rfl
theorem overM_mem (es : List EntM) : ∀ j, j ≤ es.length → ∀ x ∈ overM [] (es.take j), ∃ e ∈ es.take j, x = mkM e := by
 intro j
 induction j with
 | zero => intro _ x hx; rw [List.take_zero] at hx; cases hx
 | succ k ih =>
  intro hk x hx
  rw [overM_step (show k < es.length by omega)] at hx
  rw [List.take_succ_eq_append_getElem (show k < es.length by omega)]
  rcases insM_mem hx with h | h
  · exact ⟨es[k], List.mem_append_right _ (List.mem_singleton.2 rfl), h⟩
  · obtain ⟨e, h1, h2⟩ := ih (by omega) x h
    exact ⟨e, List.mem_append_left _ h1, h2⟩
theorem maxTo_bound (l : List MarkM) (B : Int) (h0 : 0 ≤ B) (h : ∀ x ∈ l, x.mi ≤ B) : ∀ j, j ≤ l.length → maxTo l j ≤ B := by
 intro j
 induction j with
 | zero => intro _; rw [maxTo_zero]; exact h0
 | succ k ih =>
  intro hk
  rw [maxTo_step (show k < l.length by omega)]
  have := h _ (List.getElem_mem (show k < l.length by omega))
  have := ih (by omega)
  omega
theorem lastS_bound {l : List MarkM} {B : Int} (h0 : 0 ≤ B) (h : ∀ x ∈ l, x.mi ≤ B) : lastS l ≤ B := by
 unfold lastS
 split
 · exact maxTo_bound l B h0 h _ (Nat.le_refl _)
 · exact h0
theorem RunS.idx {l : List EntM} (h : RunS l) {j : Nat} (hj : j < l.length) : l[j].idx = (j : Int) + 1 := (h.1 j hj).2.1
theorem RunS.last_le {l : List EntM} (h : RunS l) {j : Nat} (hj : j ≤ l.length) : lastS (overM [] (l.take j)) ≤ (j : Int) := by
 refine lastS_bound (by omega) fun x hx => ?_
 obtain ⟨e, h1, rfl⟩ := overM_mem l j hj x hx
 obtain ⟨i, hi, rfl⟩ := List.getElem_of_mem h1
 rw [List.length_take] at hi
 rw [List.getElem_take]
 show l[i].idx ≤ _
 rw [h.idx (by omega)]
 omega
theorem lastC_lt {l : List EntM} : ∀ j (hj : j ≤ l.length) (c s : Int), 1 ≤ s → (∀ i (hi : i < j), l[i].cl = c → l[i].sq < s) → (lastC (l.take j) c).ms < s := by
 intro j
 induction j with
 | zero => intro _ c s hs _; rw [List.take_zero]; exact Int.lt_of_lt_of_le (show (0 : Int) < 1 by decide) hs
 | succ k ih =>
  intro hj c s hs hall
  rw [lastC_take (show k < l.length by omega)]
  split
  next hc => exact hall k (by omega) hc
  next hc => exact ih (by omega) c s hs fun i hi => hall i (by omega)
theorem RunS.lastC_ge {l : List EntM} (h : RunS l) : ∀ j (hj : j ≤ l.length) (i : Nat) (hi : i < j), l[i].sq ≤ (lastC (l.take j) l[i].cl).ms := by
 intro j
 induction j with
 | zero => intro _ i hi; exact absurd hi (by omega)
 | succ k ih =>
  intro hj i hi
  rw [lastC_take (show k < l.length by omega)]
  by_cases e : i = k
  · subst e
    rw [if_pos rfl]
    exact Int.le_refl _
  · split
    next hc => exact Int.le_of_lt ((h.2 k (by omega)).2 i (by omega) hc.symm)
    next hc => exact ih (by omega) i (by omega)
theorem seen_nil : seenB [] = true := rfl
theorem RunS.may {l : List EntM} (h : RunS l) (_hl : l.length ≤ 20) : ∀ j, j < l.length → overAt [] l j = true := by
 have key : ∀ j, j ≤ l.length → ∀ q, q < j → overAt [] l q = true := by
  intro j
  induction j with
  | zero => intro _ q hq; exact absurd hq (by omega)
  | succ k ih =>
   intro hk q hq
   by_cases e : q < k
   · exact ih (by omega) q e
   · obtain rfl : q = k := by omega
     have hok : seenB (overM [] (l.take q)) = true := over_ok seen_nil q (by omega) fun i hi => ih (by omega) i hi
     have hql : q < l.length := by omega
     have he := (entB_iff _).1 (h.1 q hql).1
     unfold overAt
     rw [egetD hql, mayB_iff]
     refine ⟨(h.1 q hql).1, ?_, ?_⟩
     · unfold freshB
       rw [hok, Bool.true_and, Bool.and_eq_true, Bool.and_eq_true, decide_eq_true_eq]
       refine ⟨(inB_iff _ _ _).2 he.2.2.1, (inB_iff _ _ _).2 he.2.2.2.1, ?_⟩
       unfold markOf
       rw [if_pos hok, overM_find l _ q (by omega)]
       exact lastC_lt q (by omega) _ _ he.2.2.2.1.1 fun i hi hc => (h.2 q hql).2 i hi hc
     · have := h.last_le (show q ≤ l.length by omega)
       rw [h.idx hql]
       omega
 intro j hj
 exact key (j + 1) (by omega) j (by omega)
theorem RunS.seen {l : List EntM} (h : RunS l) (hl : l.length ≤ 20) {j : Nat} (hj : j ≤ l.length) : seenB (overM [] (l.take j)) = true := over_ok seen_nil j hj fun q hq => h.may hl q (by omega)
theorem RunS.over {l : List EntM} (h : RunS l) (hl : l.length ≤ 20) (k : Nat) : seenOverM (overM [] (l.take k)) (l.drop k) = (overM [] l, true) := by
 have e0 : overM (overM [] (l.take k)) (l.drop k) = overM [] l := by
  unfold overM
  rw [← List.foldl_append, List.take_append_drop]
 have hs : seenB (overM [] (l.take k)) = true := by
  rcases Nat.lt_or_ge l.length k with h1 | h1
  · rw [List.take_of_length_le (by omega), ← List.take_length (l := l)]; exact h.seen hl (Nat.le_refl _)
  · exact h.seen hl h1
 unfold seenOverM
 rw [if_pos hs, if_pos (by rw [List.length_drop]; omega), if_pos, e0]
 rw [overB_iff]
 intro j hj
 rw [List.length_drop] at hj
 have h1 := h.may hl (k + j) (by omega)
 unfold overAt at h1 ⊢
 rw [egetD (show k + j < l.length by omega)] at h1
 rw [egetD (show j < (l.drop k).length by rw [List.length_drop]; omega), List.getElem_drop]
 have e1 : overM (overM [] (l.take k)) ((l.drop k).take j) = overM [] (l.take (k + j)) := by
  unfold overM
  rw [← List.foldl_append, List.take_add]
 rw [e1]
 exact h1
theorem RunS.over0 {l : List EntM} (h : RunS l) (hl : l.length ≤ 20) : seenOverM [] l = (overM [] l, true) := by
 have := h.over hl 0
 rw [List.take_zero, List.drop_zero] at this
 exact this
theorem RunS.take {l : List EntM} (h : RunS l) (k : Nat) : RunS (l.take k) := by
 refine ⟨h.1.take k, fun j hj => ?_⟩
 rw [List.length_take] at hj
 obtain ⟨a, b⟩ := h.2 j (by omega)
 rw [List.getElem_take]
 exact ⟨a, fun i hi => by rw [List.getElem_take]; exact b i hi⟩
theorem RunS.last {l : List EntM} (h : RunS l) (hl : l.length ≤ 20) : lastS (overM [] l) = (l.length : Int) := by
 have h1 := h.last_le (Nat.le_refl l.length)
 rw [List.take_length] at h1
 by_cases h0 : l.length = 0
 · have : l = [] := List.eq_nil_of_length_eq_zero h0
   subst this
   rfl
 · obtain ⟨k, hk⟩ : ∃ k, l.length = k + 1 := ⟨l.length - 1, by omega⟩
   have hs := h.seen hl (Nat.le_refl l.length)
   rw [List.take_length] at hs
   have hm : mkM (l[k]'(by omega)) ∈ overM [] l := by
    have e : l = l.take (k + 1) := by rw [List.take_of_length_le (by omega)]
    have h5 : overM [] l = overM [] (l.take (k + 1)) := by rw [← e]
    rw [h5, overM_step (show k < l.length by omega)]
    exact insM_self _ _
   have h2 := lastS_ge hs hm
   have h3 : (mkM (l[k]'(by omega))).mi = (k : Int) + 1 := h.idx (show k < l.length by omega)
   omega
theorem RunS.mark {l : List EntM} (h : RunS l) (hl : l.length ≤ 20) (c : Int) : markOf (overM [] l) c = lastC l c := by
 have hs := h.seen hl (Nat.le_refl l.length)
 have h2 := overM_find l c l.length (Nat.le_refl _)
 rw [List.take_length] at hs h2
 unfold markOf
 rw [if_pos hs, h2]
theorem run_ents {L : List EntM} (h : RunS L) : ∀ e ∈ L, entB e = true := fun e he => by
 obtain ⟨j, hj, rfl⟩ := List.getElem_of_mem he
 exact (h.1 j hj).1
theorem rot_shape {ks : List (List Int)} (h : diskOk ⟨ks, []⟩ = true) (at_ i y : Int) : ∃ ks', (rotted ⟨ks, []⟩ at_ i y).1 = ⟨ks', []⟩ ∧ diskOk ⟨ks', []⟩ = true ∧ ks'.length = ks.length ∧ ∀ I : Nat, I < ks.length → ks'.getD I [] = ks.getD I [] ∨ (ks'.getD I [] = (ks.getD I []).set i.toNat y) := by
 unfold rotted
 rw [if_pos h]
 split
 next hc =>
  obtain ⟨h1, ⟨h2, h3⟩, h4, h5⟩ := hc
  have hs : at_.toNat < ks.length := by
   unfold hasS at h1
   rw [Bool.and_eq_true, decide_eq_true_eq, decide_eq_true_eq] at h1
   have h1 : 0 ≤ at_ ∧ at_ ≤ (ks.length : Int) - 1 := h1
   omega
  have hrow : rowOk (ks.getD at_.toNat []) = true := getD_ok (ok_rows h) _
  have hrow2 : rowOk ((ks.getD at_.toNat []).set i.toNat y) = true := by
   rw [rowOk_iffS] at hrow ⊢
   refine ⟨by rw [List.length_set]; exact hrow.1, fun x hx => ?_⟩
   rcases List.mem_or_eq_of_mem_set hx with hx | rfl
   · exact hrow.2 x hx
   · exact ⟨h4, h5⟩
  refine ⟨_, rfl, ok_set h hrow2, by simp, fun I hI => ?_⟩
  show (ks.set at_.toNat _).getD I [] = _ ∨ _
  rw [getD_setL hI]
  by_cases e : at_.toNat = I
  · subst e
    right
    exact if_pos rfl
  · left
    rw [if_neg e]
 next => exact ⟨ks, rfl, h, rfl, fun I _ => Or.inl rfl⟩
def MadeMB (w : World) (r : List MarkM × Bool) (e : Ending) (w' : World) : Prop :=
 ∃ (A : Option Addr) (n c : Nat), e = .returned (.tuple #[.slice A n c, .bool r.2]) ∧ Has w' w.heap.size [mrkD r.1] [.slice A n c] ∧ Below w.heap.size w w'
def CSeenOver (p : Nat) : Prop := ∀ (A : Option Addr) (n cc : Nat) (l : List MarkM) (A5 : Option Addr) (n5 c5 : Nat) (es : List EntM) (w : World), Rd w w.heap.size [mrkD l] [.slice A n cc] → mrkSz l ≤ 1048577 → Rd w w.heap.size [entD es] [.slice A5 n5 c5] → entSz es ≤ 1048577 → Calls Try.prog p #[.slice A n cc, .slice A5 n5 c5] w (MadeMB w (seenOverM l es))
def doneA (l : List MarkM) (c : Int) (j : Nat) : Bool := (l.take j).any fun y => decide (c ≤ y.mc)
def outA (l : List MarkM) (x : MarkM) (j : Nat) : List MarkM := ((l.take j).filter fun y => decide (y.mc < x.mc)) ++ (if doneA l x.mc j = true then x :: ((l.take j).filter fun y => decide (x.mc < y.mc)) else [])
theorem outA_zero (l : List MarkM) (x : MarkM) : outA l x 0 = [] := by
 unfold outA doneA
 simp
theorem doneA_zero (l : List MarkM) (c : Int) : doneA l c 0 = false := by
 unfold doneA
 simp
theorem doneA_step {l : List MarkM} {c : Int} {j : Nat} (hj : j < l.length) : doneA l c (j + 1) = (doneA l c j || decide (c ≤ l[j].mc)) := by
 unfold doneA
 rw [List.take_succ_eq_append_getElem hj, List.any_append]
 simp
theorem doneA_no {l : List MarkM} (h : seenB l = true) {c : Int} {j : Nat} (hj : j < l.length) (hc : l[j].mc ≤ c) : doneA l c j = false := by
 rw [Bool.eq_false_iff]
 intro h9
 unfold doneA at h9
 rw [List.any_eq_true] at h9
 obtain ⟨y, hy, h8⟩ := h9
 obtain ⟨i, hi, rfl⟩ := List.getElem_of_mem hy
 rw [List.length_take] at hi
 rw [List.getElem_take, decide_eq_true_eq] at h8
 have := seen_rise h j hj i (by omega)
 omega
theorem filt_step {l : List MarkM} {p : MarkM → Bool} {j : Nat} (hj : j < l.length) : (l.take (j + 1)).filter p = (l.take j).filter p ++ (if p l[j] = true then [l[j]] else []) := by
 rw [List.take_succ_eq_append_getElem hj, List.filter_append, List.filter_cons]
 simp
theorem outA_lt {l : List MarkM} (h : seenB l = true) {x : MarkM} {j : Nat} (hj : j < l.length) (hc : l[j].mc < x.mc) : outA l x (j + 1) = outA l x j ++ [l[j]] ∧ doneA l x.mc j = false ∧ doneA l x.mc (j + 1) = false := by
 have h1 := doneA_no h hj (c := x.mc) (by omega)
 have h2 : doneA l x.mc (j + 1) = false := by rw [doneA_step hj, h1, decide_eq_false (by omega)]; rfl
 refine ⟨?_, h1, h2⟩
 unfold outA
 rw [h1, h2, filt_step hj, if_pos (decide_eq_true hc)]
 simp
theorem filt_gt_nil {l : List MarkM} {c : Int} {j : Nat} (h : doneA l c j = false) : ((l.take j).filter fun y => decide (c < y.mc)) = [] := by
 rw [List.filter_eq_nil_iff]
 intro y hy h9
 rw [Bool.eq_false_iff] at h
 apply h
 unfold doneA
 rw [List.any_eq_true]
 refine ⟨y, hy, ?_⟩
 simp at h9 ⊢
 omega
theorem outA_eq {l : List MarkM} (h : seenB l = true) {x : MarkM} {j : Nat} (hj : j < l.length) (hc : l[j].mc = x.mc) : outA l x (j + 1) = outA l x j ++ [x] ∧ doneA l x.mc j = false ∧ doneA l x.mc (j + 1) = true := by
 have h1 := doneA_no h hj (c := x.mc) (by omega)
 have h2 : doneA l x.mc (j + 1) = true := by rw [doneA_step hj, decide_eq_true (by omega), Bool.or_true]
 refine ⟨?_, h1, h2⟩
 unfold outA
 rw [h1, h2, if_pos rfl, filt_step hj, filt_step hj, if_neg (by simp; omega), if_neg (by simp; omega), filt_gt_nil h1]
 simp
theorem outA_gt_no {l : List MarkM} {x : MarkM} {j : Nat} (hj : j < l.length) (hc : x.mc < l[j].mc) (h1 : doneA l x.mc j = false) : outA l x (j + 1) = (outA l x j ++ [x]) ++ [l[j]] ∧ doneA l x.mc (j + 1) = true := by
 have h2 : doneA l x.mc (j + 1) = true := by rw [doneA_step hj, decide_eq_true (by omega), Bool.or_true]
 refine ⟨?_, h2⟩
 unfold outA
 rw [h1, h2, if_pos rfl, filt_step hj, filt_step hj, if_neg (by simp; omega), if_pos (by simp; omega), filt_gt_nil h1]
 simp
theorem outA_gt_yes {l : List MarkM} {x : MarkM} {j : Nat} (hj : j < l.length) (hc : x.mc < l[j].mc) (h1 : doneA l x.mc j = true) : outA l x (j + 1) = outA l x j ++ [l[j]] ∧ doneA l x.mc (j + 1) = true := by
 have h2 : doneA l x.mc (j + 1) = true := by rw [doneA_step hj, h1, Bool.true_or]
 refine ⟨?_, h2⟩
 unfold outA
 rw [h1, h2, if_pos rfl, filt_step hj, filt_step hj, if_neg (by simp; omega), if_pos (by simp; omega)]
 simp
theorem outA_end_yes {l : List MarkM} {x : MarkM} (h1 : doneA l x.mc l.length = true) : outA l x l.length = insM l x := by
 unfold outA insM
 rw [h1, if_pos rfl, List.take_length]
theorem outA_end_no {l : List MarkM} {x : MarkM} (h1 : doneA l x.mc l.length = false) : outA l x l.length ++ [x] = insM l x := by
 have h2 := filt_gt_nil h1
 rw [List.take_length] at h2
 unfold outA insM
 rw [h1, h2, List.take_length]
 simp
theorem mrk_flat : ∀ x : MarkM, mrkC x = (mrkNs x).flatMap fun y => [Dat.int y] := fun _ => rfl
set_option maxHeartbeats 3200000 in
theorem sCopyMs_any (A : Option Addr) (n cc B : Nat) (l : List MarkM) (w : World) (h : Rd w B [mrkD l] [.slice A n cc]) (hB : B ≤ w.heap.size) (hs : mrkSz l ≤ 1048577) :
    Calls Try.prog 71 #[.slice A n cc] w fun e w' => ∃ (A2 : Option Addr) (c2 : Nat), e = .returned (.slice A2 n c2) ∧ Has w' w.heap.size [mrkD l] [.slice A2 n c2] ∧ Below w.heap.size w w' := by
 obtain ⟨_, _, _, e, hl, _, hcm, _⟩ := h.mrks
 injection e with e1 e2 e3
 subst e1 e2 e3
 have hn : n ≤ 1048577 := by unfold mrkSz at hs; omega
 have S := Sep.nil w w.heap.size
 have c := Below.refl w.heap.size w
 replace S := S.boxAt c.size (w.heap.size) rfl #[] 76
 replace c := al c S
 have hsr := Rd.src (f := mrkC) (g := mrkNs) (l := l) (e := 76) (k := 3) mrk_flat (fun _ => rfl) (by decide) (h.keep (c.mono hB))
 replace S := S.blk0 (k := 3) (f := mrkC)
 replace S := (S.flat (f := mrkC) (g := mrkNs) mrk_flat l).swap
 have hgc := jd c
 clear h c hcm
 go_enter Try.func71, Try.ntmps71
 go_wp2_with (first
  | (at_builtin
     refine wpList_append_fresh (f := mrkC) (k := 3) (l2 := l) rfl (.tmp 3) (.tmp 4) (by rfl) Try.underlying38 infoMark (by rfl) (by decide) mrkC_len (by rfl) (S.own_ 0 rfl) (S.nodup_own 0 rfl) (by rfl) hsr.1 (S.own_ 1 rfl) hsr.2 (S.nodup_own 1 rfl) S.apart (by omega) (by omega) ?_
     intro A3 c3 w3 fp3 o3 n3 s3 t3))
 have H := jd (S.merge t3 o3 n3 s3 hgc.out.size).first
 have C := jd (hgc.out.trans (S.below 0 rfl t3 hgc.out.size))
 clear S o3 n3 s3 t3 hgc hsr
 go_ret
 exact ⟨_, _, rfl, H.out, C.out⟩
end Go.Proofs.Ytmjifhjhialcbaa
