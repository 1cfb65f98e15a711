/- Parts of my texts: MarkV RecD RecE. -/
import Derived.Test.YtmjifhjhialcbaaGreatL8
import Derived.Test.YtmjifhjhialcbaaGreatL9
namespace Go.Proofs.YtmjifhjhialcbaaGreat
set_option maxRecDepth 100000
set_option linter.unusedVariables false
open Go.RowKit
def mkM (e : EntM) : MarkM := ⟨e.cl, e.sq, e.idx⟩
def lastC (es : List EntM) (c : Int) : MarkM := es.foldl (fun a e => if e.cl = c then mkM e else a) mark0
theorem lastC_snoc (es : List EntM) (e : EntM) (c : Int) : lastC (es ++ [e]) c = if e.cl = c then mkM e else lastC es c := by
 unfold lastC
 rw [List.foldl_append]
 rfl
theorem lastC_take {es : List EntM} {j : Nat} (hj : j < es.length) (c : Int) : lastC (es.take (j + 1)) c = if es[j].cl = c then mkM es[j] else lastC (es.take j) c := by
 rw [List.take_succ_eq_append_getElem hj, lastC_snoc]
theorem find_filter (l : List MarkM) (p q : MarkM → Bool) (h : ∀ x, q x = true → p x = true) : (l.filter p).find? q = l.find? q := by
 induction l with
 | nil => rfl
 | cons x t ih =>
  rw [List.filter_cons, List.find?_cons]
  cases hq : q x with
  | true => rw [h x hq, if_pos rfl, List.find?_cons, hq]
  | false =>
   split
   · rw [List.find?_cons, hq, ih]
   · exact ih
theorem find_filter_none (l : List MarkM) (p q : MarkM → Bool) (h : ∀ x, q x = true → p x = false) : (l.filter p).find? q = none := by
 rw [List.find?_eq_none]
 intro x hx hq
 have := (List.mem_filter.1 hx).2
 rw [h x hq] at this
 cases this
theorem findM_ins (l : List MarkM) (x : MarkM) (c : Int) : findM (insM l x) c = if x.mc = c then x else findM l c := by
 unfold findM insM
 rw [List.find?_append, List.find?_cons]
 by_cases h : x.mc = c
 · rw [if_pos h, find_filter_none l _ _ (fun y hy => by have : y.mc = c := by simpa using hy
                                                        simp; omega), show (x.mc == c) = true by simpa using h]
   rfl
 · rw [if_neg h, show (x.mc == c) = false by simpa using h]
   by_cases h1 : c < x.mc
   · rw [find_filter l (fun y => decide (y.mc < x.mc)) _ (fun y hy => by have : y.mc = c := by simpa using hy
                                                                         simp; omega), find_filter_none l (fun y => decide (x.mc < y.mc)) _ (fun y hy => by have : y.mc = c := by simpa using hy
                                                                                                                                                            simp; omega)]
     simp
   · rw [find_filter l (fun y => decide (x.mc < y.mc)) _ (fun y hy => by have : y.mc = c := by simpa using hy
                                                                         simp; omega), find_filter_none l (fun y => decide (y.mc < x.mc)) _ (fun y hy => by have : y.mc = c := by simpa using hy
                                                                                                                                                            simp; omega)]
     simp
theorem insM_mem {l : List MarkM} {x y : MarkM} (h : y ∈ insM l x) : y = x ∨ y ∈ l := by
 unfold insM at h
 rcases List.mem_append.1 h with h | h
 · exact .inr (List.mem_filter.1 h).1
 · rcases List.mem_cons.1 h with h | h
   · exact .inl h
   · exact .inr (List.mem_filter.1 h).1
theorem overM_find (es : List EntM) (c : Int) : ∀ j, j ≤ es.length → findM (overM [] (es.take j)) c = lastC (es.take j) c := by
 intro j
 induction j with
 | zero => intro _; rw [List.take_zero]; rfl
 | succ k ih =>
  intro hk
  rw [overM_step (show k < es.length by omega), findM_ins, lastC_take (show k < es.length by omega), ih (by omega)]
  rfl
theorem overM_mem (es : List EntM) : ∀ j, j ≤ es.length → ∀ x ∈ overM [] (es.take j), ∃ e ∈ es.take j, x = mkM e := by
 intro j
 induction j with
 | zero => intro _ x hx; rw [List.take_zero] at hx; cases hx
 | succ k ih =>
  intro hk x hx
  rw [overM_step (show k < es.length by omega)] at hx
  rw [List.take_succ_eq_append_getElem (show k < es.length by omega)]
  rcases insM_mem hx with h | h
  · exact ⟨es[k], List.mem_append_right _ (List.mem_singleton.2 rfl), h⟩
  · obtain ⟨e, h1, h2⟩ := ih (by omega) x h
    exact ⟨e, List.mem_append_left _ h1, h2⟩
theorem maxTo_bound (l : List MarkM) (B : Int) (h0 : 0 ≤ B) (h : ∀ x ∈ l, x.mi ≤ B) : ∀ j, j ≤ l.length → maxTo l j ≤ B := by
 intro j
 induction j with
 | zero => intro _; rw [maxTo_zero]; exact h0
 | succ k ih =>
  intro hk
  rw [maxTo_step (show k < l.length by omega)]
  have := h _ (List.getElem_mem (show k < l.length by omega))
  have := ih (by omega)
  omega
theorem lastS_bound {l : List MarkM} {B : Int} (h0 : 0 ≤ B) (h : ∀ x ∈ l, x.mi ≤ B) : lastS l ≤ B := by
 unfold lastS
 split
 · exact maxTo_bound l B h0 h _ (Nat.le_refl _)
 · exact h0
theorem RunS.idx {l : List EntM} (h : RunS l) {j : Nat} (hj : j < l.length) : l[j].idx = (j : Int) + 1 := (h.1 j hj).2.1
theorem RunS.last_le {l : List EntM} (h : RunS l) {j : Nat} (hj : j ≤ l.length) : lastS (overM [] (l.take j)) ≤ (j : Int) := by
 refine lastS_bound (by omega) fun x hx => ?_
 obtain ⟨e, h1, rfl⟩ := overM_mem l j hj x hx
 obtain ⟨i, hi, rfl⟩ := List.getElem_of_mem h1
 rw [List.length_take] at hi
 rw [List.getElem_take]
 show l[i].idx ≤ _
 rw [h.idx (by omega)]
 omega
theorem lastC_lt {l : List EntM} : ∀ j (hj : j ≤ l.length) (c s : Int), 1 ≤ s → (∀ i (hi : i < j), l[i].cl = c → l[i].sq < s) → (lastC (l.take j) c).ms < s := by
 intro j
 induction j with
 | zero => intro _ c s hs _; rw [List.take_zero]; exact Int.lt_of_lt_of_le (show (0 : Int) < 1 by decide) hs
 | succ k ih =>
  intro hj c s hs hall
  rw [lastC_take (show k < l.length by omega)]
  split
  next hc => exact hall k (by omega) hc
  next hc => exact ih (by omega) c s hs fun i hi => hall i (by omega)
theorem RunS.lastC_ge {l : List EntM} (h : RunS l) : ∀ j (hj : j ≤ l.length) (i : Nat) (hi : i < j), l[i].sq ≤ (lastC (l.take j) l[i].cl).ms := by
 intro j
 induction j with
 | zero => intro _ i hi; exact absurd hi (by omega)
 | succ k ih =>
  intro hj i hi
  rw [lastC_take (show k < l.length by omega)]
  by_cases e : i = k
  · subst e
    rw [if_pos rfl]
    exact Int.le_refl _
  · split
    next hc => exact Int.le_of_lt ((h.2 k (by omega)).2 i (by omega) hc.symm)
    next hc => exact ih (by omega) i (by omega)
theorem seen_nil : seenB [] = true := rfl
theorem RunS.may {l : List EntM} (h : RunS l) (_hl : l.length ≤ 20) : ∀ j, j < l.length → overAt [] l j = true := by
 have key : ∀ j, j ≤ l.length → ∀ q, q < j → overAt [] l q = true := by
  intro j
  induction j with
  | zero => intro _ q hq; exact absurd hq (by omega)
  | succ k ih =>
   intro hk q hq
   by_cases e : q < k
   · exact ih (by omega) q e
   · obtain rfl : q = k := by omega
     have hok : seenB (overM [] (l.take q)) = true := over_ok seen_nil q (by omega) fun i hi => ih (by omega) i hi
     have hql : q < l.length := by omega
     have he := (entB_iff _).1 (h.1 q hql).1
     unfold overAt
     rw [egetD hql, mayB_iff]
     refine ⟨(h.1 q hql).1, ?_, ?_⟩
     · unfold freshB
       rw [hok, Bool.true_and, Bool.and_eq_true, Bool.and_eq_true, decide_eq_true_eq]
       refine ⟨(inB_iff _ _ _).2 he.2.2.1, (inB_iff _ _ _).2 he.2.2.2.1, ?_⟩
       unfold markOf
       rw [if_pos hok, overM_find l _ q (by omega)]
       exact lastC_lt q (by omega) _ _ he.2.2.2.1.1 fun i hi hc => (h.2 q hql).2 i hi hc
     · have := h.last_le (show q ≤ l.length by omega)
       rw [h.idx hql]
       omega
 intro j hj
 exact key (j + 1) (by omega) j (by omega)
theorem RunS.seen {l : List EntM} (h : RunS l) (hl : l.length ≤ 20) {j : Nat} (hj : j ≤ l.length) : seenB (overM [] (l.take j)) = true := over_ok seen_nil j hj fun q hq => h.may hl q (by omega)
theorem RunS.take {l : List EntM} (h : RunS l) (k : Nat) : RunS (l.take k) := by
 refine ⟨h.1.take k, fun j hj => ?_⟩
 rw [List.length_take] at hj
 obtain ⟨a, b⟩ := h.2 j (by omega)
 rw [List.getElem_take]
 exact ⟨a, fun i hi => by rw [List.getElem_take]; exact b i hi⟩
theorem RunS.mark {l : List EntM} (h : RunS l) (hl : l.length ≤ 20) (c : Int) : markOf (overM [] l) c = lastC l c := by
 have hs := h.seen hl (Nat.le_refl l.length)
 have h2 := overM_find l c l.length (Nat.le_refl _)
 rw [List.take_length] at hs h2
 unfold markOf
 rw [if_pos hs, h2]
def wrE (e : EntM) : Int × List Int := (slotOfM e.idx, withSum (slotRowM e))
def setAll (k : List (List Int)) (l : List EntM) : List (List Int) := l.foldl (fun ks e => ks.set (slotOfM e.idx).toNat (withSum (slotRowM e))) k
theorem setAll_snoc (k : List (List Int)) {l : List EntM} {j : Nat} (hj : j < l.length) : setAll k (l.take (j + 1)) = (setAll k (l.take j)).set (slotOfM l[j].idx).toNat (withSum (slotRowM l[j])) := by
 unfold setAll
 rw [List.take_succ_eq_append_getElem hj, List.foldl_append]
 rfl
theorem setAll_len (k : List (List Int)) : ∀ (l : List EntM), (setAll k l).length = k.length := by
 intro l
 unfold setAll
 induction l generalizing k with
 | nil => rfl
 | cons e l ih => rw [List.foldl_cons, ih, List.length_set]
theorem map_getD (l : List EntM) {j : Nat} (hj : j < l.length) : (l.map wrE).getD j (0, []) = wrE l[j] := by
 simp [List.getD, List.getElem?_eq_getElem hj]
theorem fell_all (k : List (List Int)) (l : List EntM) : ∀ j, j ≤ l.length → fellTo true [] k (l.map wrE) j = setAll k (l.take j)
 | 0, _ => rfl
 | j + 1, hj => by
  have hjl : j < l.length := by omega
  rw [setAll_snoc k hjl, ← fell_all k l j (by omega)]
  show fell true _ _ ((l.map wrE).getD j (0, [])) = _
  rw [map_getD l hjl]
  rfl
theorem synced_all {k : List (List Int)} {l : List EntM} (h : diskOk ⟨k, l.map wrE⟩ = true) : synced ⟨k, l.map wrE⟩ = ⟨setAll k l, []⟩ := by
 unfold synced
 rw [if_pos h]
 unfold fall
 have := fell_all k l l.length (Nat.le_refl _)
 rw [List.take_length] at this
 show (⟨fellTo true [] k (l.map wrE) (l.map wrE).length, []⟩ : DiskM) = _
 rw [List.length_map, this]
def twin (d : DiskM) : TwoM := ⟨d, d⟩
theorem twin_ok {d : DiskM} (h : diskOk d = true) : twoOk (twin d) = true := twoOk_iff.2 ⟨h, h, rfl⟩
theorem twin_keep {d : DiskM} {e : EntM} (hk : keptB (twin d) = true) (he : entB e = true) (hw : d.wait.length < 60) : keptEntryM (twin d) e = (twin ⟨d.kept, d.wait ++ [wrE e]⟩, true) := by
 obtain ⟨h1, h2⟩ := (keptB_iff _).1 hk
 have hd : diskOk d = true := (twoOk_iff.1 h1).1
 have hb := ((entB_iff e).1 he).1
 have hs := slot_lt hb
 obtain ⟨r1, r2⟩ := slotRow_ok he
 have hl : d.kept.length = 22 := h2
 have hwr : wrote d (slotOfM e.idx) (withSum (slotRowM e)) = (⟨d.kept, d.wait ++ [wrE e]⟩, true) := by
  unfold wrote
  rw [if_pos hd, if_pos ⟨by rw [← hs.2.2]; exact has_at (by omega), withSum_ok r1 (by omega), hw⟩]
  rfl
 unfold keptEntryM
 rw [if_pos hk, if_pos he]
 unfold bothWrote
 rw [if_pos h1]
 show (if (withSum (slotRowM e)).length ≠ 0 ∧ (wrote d (slotOfM e.idx) (withSum (slotRowM e))).2 = true ∧ (wrote d (slotOfM e.idx) (withSum (slotRowM e))).2 = true then _ else _) = _
 rw [hwr, if_pos ⟨by rw [withSum_lenR r1 (by omega)]; omega, rfl, rfl⟩]
 show ((⟨(wrote d (slotOfM e.idx) (withSum (slotRowM e))).1, (wrote d (slotOfM e.idx) (withSum (slotRowM e))).1⟩ : TwoM), true) = _
 rw [hwr]
 rfl
theorem twin_sync {k : List (List Int)} {l : List EntM} (h : diskOk ⟨k, l.map wrE⟩ = true) : bothSynced (twin ⟨k, l.map wrE⟩) = twin ⟨setAll k l, []⟩ := by
 unfold bothSynced
 rw [if_pos (twin_ok h)]
 show (⟨synced ⟨k, l.map wrE⟩, synced ⟨k, l.map wrE⟩⟩ : TwoM) = _
 rw [synced_all h]
 rfl
def diskTo (k : List (List Int)) (l : List EntM) (s j : Nat) : DiskM := if j ≤ s then ⟨k, (l.take j).map wrE⟩ else ⟨setAll k (l.take s), ((l.take j).drop s).map wrE⟩
theorem keptTo_twin {k : List (List Int)} {l : List EntM} (hk : keptB (twin ⟨k, []⟩) = true) (he : ∀ e ∈ l, entB e = true) (hl : l.length ≤ 59) (s : Nat) : ∀ j, j ≤ l.length → keptTo (twin ⟨k, []⟩) l (s : Int) j = twin (diskTo k l s j)
 | 0, _ => by
  unfold diskTo
  rw [if_pos (Nat.zero_le _)]
  rfl
 | j + 1, hj => by
  have hjl : j < l.length := by omega
  have ih := keptTo_twin hk he hl s j (by omega)
  have hkj := keptB_to hk l (s : Int) j
  rw [ih] at hkj
  show (keptEntryM (syncAt (s : Int) (keptTo (twin ⟨k, []⟩) l (s : Int) j) j) (l.getD j ent0)).1 = _
  rw [ih, egetD hjl]
  have hej := he _ (List.getElem_mem hjl)
  by_cases h1 : j = s
  · subst h1
    have hd : diskTo k l j j = ⟨k, (l.take j).map wrE⟩ := by unfold diskTo; rw [if_pos (Nat.le_refl _)]
    rw [hd] at hkj ⊢
    have hok : diskOk ⟨k, (l.take j).map wrE⟩ = true := (twoOk_iff.1 ((keptB_iff _).1 hkj).1).1
    have hs : syncAt (j : Int) (twin ⟨k, (l.take j).map wrE⟩) j = twin ⟨setAll k (l.take j), []⟩ := by
     unfold syncAt
     rw [if_pos rfl, twin_sync hok]
    rw [hs]
    have hk2 := keptB_synced hkj
    rw [twin_sync hok] at hk2
    rw [twin_keep hk2 hej (show (0 : Nat) < 60 by decide)]
    unfold diskTo
    rw [if_neg (by omega), List.take_succ_eq_append_getElem hjl, List.drop_append_of_le_length (by rw [List.length_take]; omega), List.drop_of_length_le (by rw [List.length_take]; omega)]
    rfl
  · have hs : syncAt (s : Int) (twin (diskTo k l s j)) j = twin (diskTo k l s j) := by
      unfold syncAt
      rw [if_neg (by omega)]
    rw [hs, twin_keep hkj hej (by unfold diskTo; split <;> simp <;> omega)]
    show twin _ = twin _
    congr 1
    unfold diskTo
    by_cases h2 : j < s
    · rw [if_pos (by omega), if_pos (by omega), List.take_succ_eq_append_getElem hjl, List.map_append]
      rfl
    · rw [if_neg (by omega), if_neg (by omega), List.take_succ_eq_append_getElem hjl, List.drop_append_of_le_length (by rw [List.length_take]; omega), List.map_append]
      rfl
theorem kept_all {k : List (List Int)} {l : List EntM} (hk : keptB (twin ⟨k, []⟩) = true) (he : ∀ e ∈ l, entB e = true) (hl : l.length ≤ 59) {s : Nat} (hs : s ≤ l.length) :
    keptAll (twin ⟨k, []⟩) l (s : Int) = twin ⟨setAll k (l.take s), (l.drop s).map wrE⟩ ∧ keptB (twin ⟨setAll k (l.take s), (l.drop s).map wrE⟩) = true := by
 have h1 := keptTo_twin hk he hl s l.length (Nat.le_refl _)
 have hkj := keptB_to hk l (s : Int) l.length
 rw [h1] at hkj
 unfold keptAll
 rw [h1]
 by_cases e : l.length ≤ s
 · obtain rfl : s = l.length := by omega
   have hd : diskTo k l l.length l.length = ⟨k, l.map wrE⟩ := by unfold diskTo; rw [if_pos (Nat.le_refl _), List.take_length]
   rw [hd] at hkj ⊢
   have hok : diskOk ⟨k, l.map wrE⟩ = true := (twoOk_iff.1 ((keptB_iff _).1 hkj).1).1
   have hk2 := keptB_synced hkj
   rw [twin_sync hok] at hk2
   rw [if_pos (by omega), twin_sync hok, List.take_length, List.drop_length]
   exact ⟨rfl, hk2⟩
 · have hd : diskTo k l s l.length = ⟨setAll k (l.take s), (l.drop s).map wrE⟩ := by unfold diskTo; rw [if_neg (by omega), List.take_length]
   rw [hd] at hkj ⊢
   rw [if_neg (by omega)]
   exact ⟨rfl, hkj⟩
def SlotsApart (l : List EntM) : Prop := ∀ p q (hp : p < l.length) (hq : q < l.length), p < q → (slotOfM l[p].idx).toNat ≠ (slotOfM l[q].idx).toNat
theorem setAll_other {k : List (List Int)} {l : List EntM} {I : Nat} (hI : I < k.length) : ∀ j, j ≤ l.length → (∀ q (hq : q < l.length), q < j → (slotOfM l[q].idx).toNat ≠ I) → (setAll k (l.take j)).getD I [] = k.getD I []
 | 0, _, _ => rfl
 | j + 1, hj, hs => by
  have hjl : j < l.length := by omega
  rw [setAll_snoc k hjl, getD_setL (by rw [setAll_len]; exact hI), if_neg (hs j hjl (by omega))]
  exact setAll_other hI j (by omega) fun q hq hq2 => hs q hq (by omega)
theorem setAll_slot {k : List (List Int)} {l : List EntM} (hk : k.length = 22) (hb : ∀ e ∈ l, entB e = true) (hd : SlotsApart l) {p : Nat} (hp : p < l.length) : ∀ j, p < j → j ≤ l.length → (setAll k (l.take j)).getD (slotOfM l[p].idx).toNat [] = withSum (slotRowM l[p])
 | 0, h0, _ => absurd h0 (by omega)
 | j + 1, h1, h2 => by
  have hjl : j < l.length := by omega
  have hs := slot_lt ((entB_iff _).1 (hb _ (List.getElem_mem hp))).1
  rw [setAll_snoc k hjl, getD_setL (by rw [setAll_len]; omega)]
  by_cases e : p = j
  · subst e
    rw [if_pos rfl]
  · rw [if_neg (fun h9 => hd p j hp hjl (by omega) h9.symm)]
    exact setAll_slot hk hb hd hp j (by omega) (by omega)
theorem fell_other {fs : List Int} {k : List (List Int)} {l : List EntM} {I : Nat} (hI : I < k.length) : ∀ j, j ≤ l.length → (∀ q (hq : q < l.length), q < j → (slotOfM l[q].idx).toNat ≠ I) → (fellTo false fs k (l.map wrE) j).getD I [] = k.getD I []
 | 0, _, _ => rfl
 | j + 1, hj, hs => by
  have hjl : j < l.length := by omega
  have ih := fell_other (fs := fs) (k := k) hI j (by omega) fun q hq hq2 => hs q hq (by omega)
  have hne : (wrE l[j]).1.toNat ≠ I := hs j hjl (by omega)
  have hlen := fellTo_len false fs k (l.map wrE) j
  show (fell false (fs.getD j 0) (fellTo false fs k (l.map wrE) j) ((l.map wrE).getD j (0, []))).getD I [] = _
  rw [map_getD l hjl]
  unfold fell
  split
  · rw [getD_setL (by omega), if_neg hne, ih]
  · split
    · rw [getD_setL (by omega), if_neg hne, ih]
    · exact ih
theorem fell_slot {fs : List Int} {k : List (List Int)} {l : List EntM} (hk : k.length = 22) (hb : ∀ e ∈ l, entB e = true) (hd : SlotsApart l) {p : Nat} (hp : p < l.length) : ∀ j, p < j → j ≤ l.length →
    (fellTo false fs k (l.map wrE) j).getD (slotOfM l[p].idx).toNat [] = withSum (slotRowM l[p]) ∨ (fellTo false fs k (l.map wrE) j).getD (slotOfM l[p].idx).toNat [] = k.getD (slotOfM l[p].idx).toNat [] ∨
    (fellTo false fs k (l.map wrE) j).getD (slotOfM l[p].idx).toNat [] = torn (withSum (slotRowM l[p])) (k.getD (slotOfM l[p].idx).toNat [])
 | 0, h0, _ => absurd h0 (by omega)
 | j + 1, h1, h2 => by
  have hjl : j < l.length := by omega
  have hs := slot_lt ((entB_iff _).1 (hb _ (List.getElem_mem hp))).1
  have hlen := fellTo_len false fs k (l.map wrE) j
  have hcell : (fellTo false fs k (l.map wrE) (j + 1)).getD (slotOfM l[p].idx).toNat [] = (fell false (fs.getD j 0) (fellTo false fs k (l.map wrE) j) (wrE l[j])).getD (slotOfM l[p].idx).toNat [] := by
   rw [← map_getD l hjl]
   rfl
  rw [hcell]
  by_cases e : p = j
  · subst e
    have ho := fell_other (fs := fs) (k := k) (l := l) (I := (slotOfM l[p].idx).toNat) (by omega) p (by omega) fun q hq hq2 => hd q p hq hp hq2
    unfold fell
    split
    · left
      rw [getD_setL (by omega)]
      exact if_pos rfl
    · split
      · right; right
        rw [getD_setL (by omega)]
        show (if (slotOfM l[p].idx).toNat = (slotOfM l[p].idx).toNat then torn (withSum (slotRowM l[p])) ((fellTo false fs k (l.map wrE) p).getD (slotOfM l[p].idx).toNat []) else _) = _
        rw [if_pos rfl, ho]
      · right; left
        exact ho
  · have ih := fell_slot (fs := fs) hk hb hd hp j (by omega) (by omega)
    have hne : (wrE l[j]).1.toNat ≠ (slotOfM l[p].idx).toNat := fun h9 => hd p j hp hjl (by omega) h9.symm
    have hsame : (fell false (fs.getD j 0) (fellTo false fs k (l.map wrE) j) (wrE l[j])).getD (slotOfM l[p].idx).toNat [] = (fellTo false fs k (l.map wrE) j).getD (slotOfM l[p].idx).toNat [] := by
     unfold fell
     split
     · rw [getD_setL (by omega), if_neg hne]
     · split
       · rw [getD_setL (by omega), if_neg hne]
       · rfl
    rw [hsame]
    exact ih
def Junk (c : List Int) : Prop := (unsummed c).2 = false ∨ c.length ≤ 6
theorem junk_slot {c r : List Int} (h : Junk c) (hr : unsummed c = (r, true)) : (rowSlotM r).2 = false ∧ (rowHeadM r).2 = false := by
 rcases h with h | h
 · rw [hr] at h; cases h
 · have : r.length ≤ 5 := by
     have h1 := congrArg (fun x : List Int × Bool => x.1) hr
     have h2 := congrArg (fun x : List Int × Bool => x.2) hr
     unfold unsummed at h1 h2
     split at h1
     next hc =>
      have h1 : c.take (c.length - 1) = r := h1
      rw [← h1, List.length_take]
      omega
     next hc => rw [if_neg hc] at h2; cases h2
   rw [rowSlot_len (by omega), rowHead_len (by omega)]
   exact ⟨rfl, rfl⟩
theorem junk_short {c : List Int} (h : c.length ≤ 6) : Junk c := Or.inr h
theorem torn_short {e : EntM} (he : entB e = true) {old : List Int} (ho : old.length ≤ 1) : (torn (withSum (slotRowM e)) old).length ≤ 6 := by
 obtain ⟨r1, r2⟩ := slotRow_ok he
 unfold torn
 rw [List.length_append, List.length_take, List.length_drop, withSum_lenR r1 (by omega)]
 omega
theorem bent_any {r : List Int} (h : rowOk r = true) (hl : r.length < 48) (hb : ∀ x ∈ r, 0 ≤ x ∧ x ≤ 1000000) {i : Nat} {y : Int} (hy : 0 ≤ y ∧ y ≤ 1000) : (withSum r).set i y = withSum r ∨ (unsummed ((withSum r).set i y)).2 = false := by
 by_cases hi : i < (withSum r).length
 · by_cases h0 : (withSum r).getD i 0 = y
   · left
     apply List.ext_getElem?
     intro q
     by_cases e : i = q
     · subst e
       rw [List.getElem?_set_self hi, List.getElem?_eq_getElem hi, ← h0]
       simp [List.getD, List.getElem?_eq_getElem hi]
     · rw [List.getElem?_set_ne e]
   · right
     have hlen := withSum_lenR h hl
     have hbd := sumOf_bd h
     by_cases hlast : i < r.length
     · have hg : (withSum r).getD i 0 = r[i] := by
         rw [withSum_yes h hl]
         simp [List.getD, List.getElem?_append_left hlast, List.getElem?_eq_getElem hlast]
       have hx := hb _ (List.getElem_mem hlast)
       refine uns_bent3 h hl hlast (by rw [← hg]; exact h0) (by omega) (by omega)
     · obtain rfl : i = r.length := by omega
       have e : (withSum r).set r.length y = r ++ [y] := by
        rw [withSum_yes h hl, List.set_append_right _ _ (Nat.le_refl _)]
        simp
       have hs : (withSum r).getD r.length 0 = sumOf r := by rw [withSum_yes h hl]; simp [List.getD]
       rw [e]
       cases hr : rowOk (r ++ [y])
       · rw [unsummed_no hr]
       · have h9 : (r ++ [y]).length = r.length + 1 := by simp
         rw [unsummed_bad (m := r.length) h9]
         rw [List.take_left' rfl]
         intro h8
         rw [hs] at h0
         apply h0
         rw [h8]
         simp [List.getD]
 · left
   rw [List.set_eq_of_length_le (by omega)]
theorem first_gap (P : Nat → Prop) : ∀ n, ∃ k, k ≤ n ∧ (∀ q, q < k → P q) ∧ (k = n ∨ ¬ P k)
 | 0 => ⟨0, Nat.le_refl _, fun q hq => absurd hq (by omega), Or.inl rfl⟩
 | n + 1 => by
  obtain ⟨k, h1, h2, h3⟩ := first_gap P n
  rcases h3 with rfl | h3
  · by_cases hp : P k
    · exact ⟨k + 1, Nat.le_refl _, fun q hq => by
        by_cases e : q = k
        · subst e; exact hp
        · exact h2 q (by omega), Or.inl rfl⟩
    · exact ⟨k, by omega, h2, Or.inr hp⟩
  · exact ⟨k, by omega, h2, Or.inr h3⟩
theorem headZ_ok : headOkB headZ = true := by decide
theorem headZ_row : rowHeadM (headRowM headZ) = (headZ, true) := head_back headZ_ok
theorem fold_head (q : Int) : ∀ (l : List (List Int)) (s : Bool), (∀ r ∈ l, r = headRowM headZ ∨ (rowHeadM r).2 = false) → ∃ s', l.foldl (better q) (headZ, s) = (headZ, s') ∧ (s = true → s' = true) ∧ (q = 0 → headRowM headZ ∈ l → s' = true)
 | [], s, _ => ⟨s, rfl, fun h => h, fun _ h => by cases h⟩
 | r :: l, s, h => by
  have h1 : ∃ s1, better q (headZ, s) r = (headZ, s1) ∧ (s = true → s1 = true) ∧ (q = 0 → r = headRowM headZ → s1 = true) := by
   rcases h r (by simp) with rfl | hr
   · unfold better
     rw [headZ_row]
     split
     next => exact ⟨true, rfl, fun _ => rfl, fun _ _ => rfl⟩
     next hc =>
      refine ⟨s, rfl, fun h => h, fun hq _ => ?_⟩
      cases s
      · exact absurd ⟨rfl, by rw [hq]; rfl, Or.inl rfl⟩ hc
      · rfl
   · rw [better_none hr]
     refine ⟨s, rfl, fun h => h, fun _ e => ?_⟩
     subst e
     rw [headZ_row] at hr
     cases hr
  obtain ⟨s1, e1, e2, e3⟩ := h1
  obtain ⟨s2, g1, g2, g3⟩ := fold_head q l s1 fun x hx => h x (List.mem_cons_of_mem _ hx)
  refine ⟨s2, by rw [List.foldl_cons, e1, g1], fun hs => g2 (e2 hs), fun hq hm => ?_⟩
  rcases List.mem_cons.1 hm with hm | hm
  · exact g2 (e3 hq hm.symm)
  · exact g3 hq hm
structure Stored (ca cb : List (List Int)) (L : List EntM) (m : Nat) : Prop where
 ok : keptB ⟨⟨ca, []⟩, ⟨cb, []⟩⟩ = true
 heads : ∀ I : Nat, I < 2 → ∀ r ∈ rights (ca.getD I []) (cb.getD I []), r = headRowM headZ ∨ (rowHeadM r).2 = false
 head0 : headRowM headZ ∈ rights (ca.getD 0 []) (cb.getD 0 [])
 ents : ∀ q (hq : q < L.length), ∀ r ∈ rights (ca.getD (slotOfM L[q].idx).toNat []) (cb.getD (slotOfM L[q].idx).toNat []), r = slotRowM L[q] ∨ (rowSlotM r).2 = false
 sure : ∀ q (hq : q < L.length), q < m → slotRowM L[q] ∈ rights (ca.getD (slotOfM L[q].idx).toNat []) (cb.getD (slotOfM L[q].idx).toNat [])
 free : ∀ I : Nat, 2 ≤ I → I < 22 → (∀ q (hq : q < L.length), (slotOfM L[q].idx).toNat ≠ I) → ∀ r ∈ rights (ca.getD I []) (cb.getD I []), (rowSlotM r).2 = false
theorem run_ents {L : List EntM} (h : RunS L) : ∀ e ∈ L, entB e = true := fun e he => by
 obtain ⟨j, hj, rfl⟩ := List.getElem_of_mem he
 exact (h.1 j hj).1
theorem run_slots {L : List EntM} (h : RunS L) (hl : L.length ≤ 20) : SlotsApart L := fun p q hp hq hpq => by
 have e1 := h.idx hp
 have e2 := h.idx hq
 exact slot_ne ((entB_iff _).1 (run_ents h _ (List.getElem_mem hp))).1 ((entB_iff _).1 (run_ents h _ (List.getElem_mem hq))).1 (by omega) (by omega)
theorem stored_front {ca cb : List (List Int)} {L : List EntM} {m : Nat} (hS : Stored ca cb L m) (hr : RunS L) (hl : L.length ≤ 20) (hm : m ≤ L.length) :
    ∃ k, m ≤ k ∧ k ≤ L.length ∧ (headInM ⟨⟨ca, []⟩, ⟨cb, []⟩⟩) = (headZ, true) ∧ bookInM ⟨⟨ca, []⟩, ⟨cb, []⟩⟩ headZ = ⟨0, 0, L.take k⟩ := by
 obtain ⟨hk1, hk2⟩ := (keptB_iff _).1 hS.ok
 have hk2 : ca.length = 22 := hk2
 have hat : ∀ (I : Nat) (_hI : I < 22), rightAt ⟨⟨ca, []⟩, ⟨cb, []⟩⟩ (I : Int) = rights (ca.getD I []) (cb.getD I []) := fun I hI => rightAt_safe hk1 (by omega)
 have hhead : headInM ⟨⟨ca, []⟩, ⟨cb, []⟩⟩ = (headZ, true) := by
  unfold headInM
  rw [if_pos hS.ok]
  have hT : headTo ⟨⟨ca, []⟩, ⟨cb, []⟩⟩ 2 = bestTo 1 (bestTo 0 (headZ, false) (rightAt ⟨⟨ca, []⟩, ⟨cb, []⟩⟩ (0 : Nat)) (rightAt ⟨⟨ca, []⟩, ⟨cb, []⟩⟩ (0 : Nat)).length) (rightAt ⟨⟨ca, []⟩, ⟨cb, []⟩⟩ (1 : Nat)) (rightAt ⟨⟨ca, []⟩, ⟨cb, []⟩⟩ (1 : Nat)).length := rfl
  rw [hT, hat 0 (by omega), hat 1 (by omega)]
  unfold bestTo
  rw [List.take_length, List.take_length]
  obtain ⟨s1, e1, _, e3⟩ := fold_head 0 _ false (hS.heads 0 (by omega))
  obtain ⟨s2, g1, g2, _⟩ := fold_head 1 _ s1 (hS.heads 1 (by omega))
  rw [e1, g1, g2 (e3 rfl hS.head0)]
 obtain ⟨k, hkL, hall, hgap⟩ := first_gap (fun q => ∃ hq : q < L.length, slotRowM L[q] ∈ rights (ca.getD (slotOfM L[q].idx).toNat []) (cb.getD (slotOfM L[q].idx).toNat [])) L.length
 have hbd : ∀ q (hq : q < L.length), 1 ≤ L[q].idx ∧ L[q].idx ≤ 2000 := fun q hq => ((entB_iff _).1 (run_ents hr _ (List.getElem_mem hq))).1
 refine ⟨k, ?_, hkL, hhead, ?_⟩
 · rcases Nat.lt_or_ge k m with h | h
   · rcases hgap with h2 | h2
     · omega
     · exact absurd ⟨by omega, hS.sure k (by omega) h⟩ h2
   · exact h
 · have hlen : (L.take k).length = k := by rw [List.length_take]; omega
   have hpre : ∀ j, j ≤ k → preX headZ (L.take k) j = (⟨0, 0, L.take j⟩, overM [] (L.take j)) := fun j hj => by
    unfold preX
    rw [List.take_take, Nat.min_eq_left hj]
    rfl
   have hlast : ∀ j, j ≤ k → lastB (⟨0, 0, L.take j⟩ : BookM) + 1 = (j : Int) + 1 := fun j hj => by
    show (0 : Int) + ((L.take j).length : Int) + 1 = _
    rw [List.length_take]
    omega
   refine book_run hS.ok headZ_ok (by omega) (fun j hj => ?_) ?_
   · rw [hlen] at hj
     have hjL : j < L.length := by omega
     have hg : (L.take k)[j]'(by omega) = L[j] := by simp
     rw [hpre j (by omega), hg]
     have hi := hr.idx hjL
     have hs := slot_lt (hbd j hjL)
     have hR : rightAt ⟨⟨ca, []⟩, ⟨cb, []⟩⟩ (slotOfM (lastB (⟨0, 0, L.take j⟩ : BookM) + 1)) = rights (ca.getD (slotOfM L[j].idx).toNat []) (cb.getD (slotOfM L[j].idx).toNat []) := by
      rw [hlast j (by omega), ← hi, ← hat _ hs.2.1, hs.2.2]
     have hmay : mayB (overM [] (L.take j)) L[j] = true := by
      have := hr.may hl j hjL
      unfold overAt at this
      rwa [egetD hjL] at this
     refine next_pick ((hr.take j).1.book (by rw [List.length_take]; omega)) (hr.seen hl (by omega)) (hr.1.next hl hjL) hmay ?_ fun r hr2 => ?_
     · rw [hR]
       obtain ⟨_, h9⟩ := hall j hj
       exact h9
     · rw [hR] at hr2
       exact hS.ents j hjL r hr2
   · rw [hlen, hpre k (Nat.le_refl _)]
     unfold nextM
     rw [hlast k (Nat.le_refl _)]
     have hno : ∀ r ∈ rightAt ⟨⟨ca, []⟩, ⟨cb, []⟩⟩ (slotOfM ((k : Int) + 1)), fitsM ⟨0, 0, L.take k⟩ (overM [] (L.take k)) r = false := by
      intro r hr2
      rw [Bool.eq_false_iff]
      intro hf
      obtain ⟨f1, f2, f3, _⟩ := (fits_iff _ _ _).1 hf
      obtain ⟨_, a2, _⟩ := app_yes f3
      obtain ⟨n1, _, _, n4⟩ := (nextB_iff _ _).1 a2
      have hid := ((entB_iff _).1 n1).1
      rw [f2, hlast k (Nat.le_refl _)] at hid
      have hs := slot_lt hid
      rw [← hs.2.2, hat _ hs.2.1] at hr2
      have n4 : (L.take k).length ≠ 20 := n4
      rw [hlen] at n4
      rcases hgap with h2 | h2
      · have h3 := hS.free _ hs.1 hs.2.1 (fun q hq => by
          have e1 := hr.idx hq
          exact slot_ne (hbd q hq) hid (by omega) (by omega)) r hr2
        rw [f1] at h3
        cases h3
      · by_cases hkl : k < L.length
        · have hi := hr.idx hkl
          rw [← hi] at hr2
          rcases hS.ents k hkl r hr2 with rfl | h3
          · exact h2 ⟨hkl, hr2⟩
          · rw [f1] at h3
            cases h3
        · have h3 := hS.free _ hs.1 hs.2.1 (fun q hq => by
            have e1 := hr.idx hq
            exact slot_ne (hbd q hq) hid (by omega) (by omega)) r hr2
          rw [f1] at h3
          cases h3
     rw [pick_no hno]
theorem fallen_cont {k0 : List (List Int)} {l : List EntM} {s : Nat} (fs : List Int) (hk0 : k0.length = 22) (he : ∀ e ∈ l, entB e = true) (hd : SlotsApart l) (hs : s ≤ l.length) (hb : ∀ q (hq : q < l.length), (k0.getD (slotOfM l[q].idx).toNat []).length ≤ 1) :
    (∀ q (hq : q < l.length), q < s → (fellTo false fs (setAll k0 (l.take s)) ((l.drop s).map wrE) (l.drop s).length).getD (slotOfM l[q].idx).toNat [] = withSum (slotRowM l[q])) ∧
    (∀ q (hq : q < l.length), (fellTo false fs (setAll k0 (l.take s)) ((l.drop s).map wrE) (l.drop s).length).getD (slotOfM l[q].idx).toNat [] = withSum (slotRowM l[q]) ∨ ((fellTo false fs (setAll k0 (l.take s)) ((l.drop s).map wrE) (l.drop s).length).getD (slotOfM l[q].idx).toNat []).length ≤ 6) ∧
    (∀ I : Nat, I < 22 → (∀ q (hq : q < l.length), (slotOfM l[q].idx).toNat ≠ I) → (fellTo false fs (setAll k0 (l.take s)) ((l.drop s).map wrE) (l.drop s).length).getD I [] = k0.getD I []) := by
 have hK : (setAll k0 (l.take s)).length = 22 := by rw [setAll_len, hk0]
 have hget : ∀ q (hq : q < (l.drop s).length), (l.drop s)[q] = l[s + q]'(by rw [List.length_drop] at hq; omega) := fun q hq => by simp
 have hsl : ∀ q (hq : q < l.length), (slotOfM l[q].idx).toNat < 22 := fun q hq => (slot_lt ((entB_iff _).1 (he _ (List.getElem_mem hq))).1).2.1
 have hsure : ∀ q (hq : q < l.length), q < s → (fellTo false fs (setAll k0 (l.take s)) ((l.drop s).map wrE) (l.drop s).length).getD (slotOfM l[q].idx).toNat [] = withSum (slotRowM l[q]) := fun q hq hqs => by
  rw [fell_other (l := l.drop s) (by rw [hK]; exact hsl q hq) _ (Nat.le_refl _) (fun p hp _ => by
   rw [hget p hp]
   exact fun h9 => hd q (s + p) hq (by rw [List.length_drop] at hp; omega) (by omega) h9.symm)]
  exact setAll_slot hk0 he hd hq s hqs hs
 refine ⟨hsure, fun q hq => ?_, fun I hI hno => ?_⟩
 · by_cases hqs : q < s
   · exact Or.inl (hsure q hq hqs)
   · have hp : q - s < (l.drop s).length := by rw [List.length_drop]; omega
     have hg : (l.drop s)[q - s] = l[q] := by rw [hget _ hp]; congr 1; omega
     have hd2 : SlotsApart (l.drop s) := fun a b ha hb2 hab => by
      rw [hget a ha, hget b hb2]
      exact hd _ _ _ _ (by omega)
     have h1 := fell_slot (fs := fs) hK (fun e h9 => he e (List.mem_of_mem_drop h9)) hd2 hp (l.drop s).length hp (Nat.le_refl _)
     rw [hg] at h1
     have hold : (setAll k0 (l.take s)).getD (slotOfM l[q].idx).toNat [] = k0.getD (slotOfM l[q].idx).toNat [] := setAll_other (by rw [hk0]; exact hsl q hq) s hs fun p hp2 hps => hd p q hp2 hq (by omega)
     rw [hold] at h1
     have hb1 := hb q hq
     rcases h1 with h1 | h1 | h1
     · exact Or.inl h1
     · exact Or.inr (by rw [h1]; omega)
     · exact Or.inr (by rw [h1]; exact torn_short (he _ (List.getElem_mem hq)) hb1)
 · rw [fell_other (l := l.drop s) (by rw [hK]; exact hI) _ (Nat.le_refl _) (fun p hp _ => by rw [hget p hp]; exact hno _ _)]
   exact setAll_other (by rw [hk0]; exact hI) s hs fun p hp _ => hno p hp
end Go.Proofs.YtmjifhjhialcbaaGreat
