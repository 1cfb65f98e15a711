/- Parts of my texts: RecC Move HeadC. -/
import Derived.Test.YtmjifhjhialcbaaGreatL5
import Derived.Laws.IdiomCopy
namespace Go.Proofs.YtmjifhjhialcbaaGreat
set_option maxRecDepth 100000
set_option linter.unusedVariables false
open Go.RowKit
def preX (h : HeadM) (l : List EntM) (j : Nat) : BookM × List MarkM := (⟨h.base, h.tm, l.take j⟩, overM h.seen (l.take j))
theorem stepM_pref (t : TwoM) (x : BookM × List MarkM) : x.1.ents <+: (stepM t x).1.ents := by
 cases hn : (nextM t x.1 x.2).2
 · rw [step_no hn]; exact List.prefix_refl _
 · obtain ⟨e, _, _, _, h3, _⟩ := step_yes hn
   rw [h3]
   exact List.prefix_append _ _
theorem bookAt_pref {t : TwoM} {h : HeadM} (j : Nat) : ∀ k, (bookAt t h j).1.ents <+: (bookAt t h (j + k)).1.ents
 | 0 => List.prefix_refl _
 | k + 1 => (bookAt_pref j k).trans (stepM_pref t (bookAt t h (j + k)))
theorem bookAt_pre {t : TwoM} {h : HeadM} (ho : headOkB h = true) : ∀ j, j ≤ (bookAt t h 21).1.ents.length → bookAt t h j = preX h (bookAt t h 21).1.ents j
 | 0, _ => by simp [preX, bookAt, overM]
 | j + 1, hj => by
  have hlen := bookB_len (bookAt_good (t := t) ho 21).1
  obtain ⟨B, hB⟩ : ∃ B, B = (bookAt t h 21).1.ents := ⟨_, rfl⟩
  have ih := bookAt_pre (t := t) (h := h) ho j (by omega)
  have hpf := bookAt_pref (t := t) (h := h) (j + 1) (21 - (j + 1))
  rw [show j + 1 + (21 - (j + 1)) = 21 by omega] at hpf
  have hst := fun hn => bookAt_stay (t := t) (h := h) (j := j) hn (21 - j)
  rw [show j + (21 - j) = 21 by omega] at hst
  rw [← hB] at ih hpf hj hlen ⊢
  have hjl : j < B.length := by omega
  cases hn : (nextM t (bookAt t h j).1 (bookAt t h j).2).2
  · have h1 : (bookAt t h 21).1.ents = (bookAt t h j).1.ents := congrArg (fun x : BookM × List MarkM => x.1.ents) (hst hn)
    have h2 : (bookAt t h j).1.ents = B.take j := by rw [ih]; rfl
    rw [← hB, h2] at h1
    have := congrArg List.length h1
    rw [List.length_take] at this
    omega
  · obtain ⟨e, _, _, _, h3, _⟩ := step_yes hn
    have h4 : bookAt t h (j + 1) = (more (bookAt t h j).1 [e], insM (bookAt t h j).2 ⟨e.cl, e.sq, e.idx⟩) := h3
    rw [h4] at hpf ⊢
    rw [ih] at hpf ⊢
    have h5 : (B.take j ++ [e]) <+: B := hpf
    have h6 : e = B[j] := by
     have h7 := h5.getElem (i := j) (by rw [List.length_append, List.length_take, List.length_singleton]; omega)
     rw [List.getElem_append_right (by rw [List.length_take]; omega)] at h7
     simpa using h7
    subst h6
    unfold preX more
    rw [overM_step hjl, List.take_succ_eq_append_getElem hjl]
theorem bookAt_next {t : TwoM} {h : HeadM} (ho : headOkB h = true) {j : Nat} (hj : j < (bookAt t h 21).1.ents.length) : nextB (preX h (bookAt t h 21).1.ents j).1 ((bookAt t h 21).1.ents[j]) = true ∧ mayB (preX h (bookAt t h 21).1.ents j).2 ((bookAt t h 21).1.ents[j]) = true ∧ bookB (preX h (bookAt t h 21).1.ents j).1 = true ∧ seenB (preX h (bookAt t h 21).1.ents j).2 = true := by
 have e1 := bookAt_pre (t := t) ho j (by omega)
 have e2 := bookAt_pre (t := t) ho (j + 1) (by omega)
 have hg := bookAt_good (t := t) ho j
 cases hn : (nextM t (bookAt t h j).1 (bookAt t h j).2).2
 · have h9 : bookAt t h (j + 1) = bookAt t h j := step_no hn
   rw [h9, e1] at e2
   have := congrArg (fun x : BookM × List MarkM => x.1.ents.length) e2
   simp only [preX, List.length_take] at this
   omega
 · obtain ⟨e, _, h1, h2, h3, _⟩ := step_yes hn
   have h4 : bookAt t h (j + 1) = (more (bookAt t h j).1 [e], insM (bookAt t h j).2 ⟨e.cl, e.sq, e.idx⟩) := h3
   rw [e2, e1] at h4
   have h5 := congrArg (fun x : BookM × List MarkM => x.1.ents) h4
   have h6 : (bookAt t h 21).1.ents.take (j + 1) = (bookAt t h 21).1.ents.take j ++ [e] := h5
   rw [List.take_succ_eq_append_getElem hj] at h6
   have h7 : (bookAt t h 21).1.ents[j] = e := by
    have := List.append_cancel_left h6
    simpa using this
   rw [h7, ← e1]
   exact ⟨h1, h2, hg.1, hg.2⟩
theorem pre_last {h : HeadM} {l : List EntM} {j : Nat} (hj : j ≤ l.length) : lastB (preX h l j).1 = h.base + (j : Int) := by
 show h.base + ((l.take j).length : Int) = _
 rw [List.length_take]
 omega
theorem next_pick {t : TwoM} {b : BookM} {s : List MarkM} {e : EntM} (hb : bookB b = true) (hs : seenB s = true) (hn : nextB b e = true) (hm : mayB s e = true) (hr : slotRowM e ∈ rightAt t (slotOfM (lastB b + 1)))
    (ho : ∀ r ∈ rightAt t (slotOfM (lastB b + 1)), r = slotRowM e ∨ (rowSlotM r).2 = false) : nextM t b s = (e, true) := by
 obtain ⟨n1, n2, _, _⟩ := (nextB_iff b e).1 hn
 have hf : fitsM b s (slotRowM e) = true := by
  rw [fits_iff, slot_back n1]
  refine ⟨rfl, n2, ?_, ?_⟩
  · unfold appM; rw [if_pos hb, if_pos hn]
  · unfold markedM; rw [if_pos hs, if_pos hm]
 unfold nextM pickM
 cases hc : (rightAt t (slotOfM (lastB b + 1))).find? (fitsM b s) with
 | none => exact absurd hf (by rw [List.find?_eq_none] at hc; exact hc _ hr)
 | some r =>
  have h1 := List.find?_some hc
  have h2 := List.mem_of_find?_eq_some hc
  rcases ho r h2 with h3 | h3
  · subst h3
    show ((rowSlotM (slotRowM e)).1, true) = _
    rw [slot_back n1]
  · have := ((fits_iff _ _ _).1 h1).1
    rw [h3] at this
    cases this
theorem book_run {t : TwoM} {h : HeadM} {l : List EntM} (hk : keptB t = true) (ho : headOkB h = true) (hl : l.length ≤ 20) (hstep : ∀ j (hj : j < l.length), nextM t (preX h l j).1 (preX h l j).2 = (l[j], true)) (hend : (nextM t (preX h l l.length).1 (preX h l l.length).2).2 = false) : bookInM t h = ⟨h.base, h.tm, l⟩ := by
 have hpre : ∀ j, j ≤ l.length → bookAt t h j = preX h l j := by
  intro j
  induction j with
  | zero => intro _; simp [preX, bookAt, overM]
  | succ j ih =>
   intro hj
   have hjl : j < l.length := by omega
   have h1 := ih (by omega)
   show stepM t (bookAt t h j) = _
   rw [h1]
   have h2 := hstep j hjl
   obtain ⟨e, he, _, _, h3, _⟩ := step_yes (t := t) (x := preX h l j) (by rw [h2])
   rw [h2] at he
   have he : l[j] = e := he
   rw [h3, ← he]
   unfold preX more
   rw [overM_step hjl, List.take_succ_eq_append_getElem hjl]
 have h1 := hpre l.length (Nat.le_refl _)
 rw [bookIn_end hk ho (j := l.length) (by omega) (by rw [h1]; exact hend), h1]
 unfold preX
 rw [List.take_length]
theorem better_ok {q : Int} {s : HeadM × Bool} {r : List Int} (h : s.2 = true → headOkB s.1 = true) : (better q s r).2 = true → headOkB (better q s r).1 = true := by
 unfold better
 split
 next hc =>
  intro _
  have h1 := hc.1
  show headOkB (rowHeadM r).1 = true
  unfold rowHeadM at h1 ⊢
  split at h1
  next ht =>
   rw [if_pos ht]
   split at h1
   next hk => rw [if_pos hk]; exact hk
   next => cases h1
  next => cases h1
 next => exact h
theorem best_ok {q : Int} {l : List (List Int)} : ∀ s : HeadM × Bool, (s.2 = true → headOkB s.1 = true) → ((l.foldl (better q) s).2 = true → headOkB (l.foldl (better q) s).1 = true) := by
 induction l with
 | nil => intro s h; exact h
 | cons r l ih => intro s h; exact ih _ (better_ok h)
theorem headTo_ok (t : TwoM) : ∀ k, (headTo t k).2 = true → headOkB (headTo t k).1 = true
 | 0 => fun h => by cases h
 | k + 1 => best_ok _ (headTo_ok t k)
theorem headIn_ok {t : TwoM} (h : (headInM t).2 = true) : keptB t = true ∧ headOkB (headInM t).1 = true := by
 unfold headInM at h ⊢
 split at h
 next hk => rw [if_pos hk]; exact ⟨hk, headTo_ok t 2 h⟩
 next => cases h
theorem better_none {q : Int} {s : HeadM × Bool} {r : List Int} (h : (rowHeadM r).2 = false) : better q s r = s := by
 unfold better
 rw [if_neg (by rw [h]; rintro ⟨h, _⟩; cases h)]
theorem rows_ok {h : HeadM} (ho : headOkB h = true) {l : List EntM} (hb : ∀ e ∈ l, entB e = true) : ∀ j, ∀ r ∈ rowsTo h l j, rowOk r = true ∧ r.length < 48 := by
 intro j
 have hz : ∀ r ∈ (List.replicate 22 ([] : List Int)).set (h.num % 2).toNat (headRowM h), rowOk r = true ∧ r.length < 48 := by
  intro r hr
  rcases List.mem_or_eq_of_mem_set hr with hr | rfl
  · obtain rfl := List.eq_of_mem_replicate hr
    exact ⟨nil_ok, by simp⟩
  · have := headRow_ok ho
    exact ⟨this.1, by omega⟩
 have : ∀ (L : List EntM) (rows : List (List Int)), (∀ e ∈ L, entB e = true) → (∀ r ∈ rows, rowOk r = true ∧ r.length < 48) → ∀ r ∈ L.foldl (fun rows e => rows.set (slotOfM e.idx).toNat (slotRowM e)) rows, rowOk r = true ∧ r.length < 48 := by
  intro L
  induction L with
  | nil => intro rows _ h; exact h
  | cons e L ih =>
   intro rows he hr
   refine ih _ (fun x hx => he x (List.mem_cons_of_mem _ hx)) fun r hr2 => ?_
   rcases List.mem_or_eq_of_mem_set hr2 with hr2 | rfl
   · exact hr r hr2
   · have := slotRow_ok (he e (by simp))
     exact ⟨this.1, by omega⟩
 exact this _ _ (fun e he => hb e (List.mem_of_mem_take he)) hz
theorem recover_rows {h : HeadM} {b : BookM} (ho : headOkB h = true) (hb : bookB b = true) (hbase : b.base = h.base ∧ b.tm = h.tm) (hrun : ∀ j (hj : j < b.ents.length), nextB (preX h b.ents j).1 b.ents[j] = true ∧ mayB (preX h b.ents j).2 b.ents[j] = true ∧ bookB (preX h b.ents j).1 = true ∧ seenB (preX h b.ents j).2 = true)
    (h2 : twoOk (onBoth (rowsOf h b)) = true) : recoveredM (onBoth (rowsOf h b)) = ⟨onBoth (rowsOf h b), h, b, true⟩ := by
 have hlen := rowsOf_len h b
 have hidx := book_idx hb
 have hn20 := bookB_len hb
 have hents : ∀ e ∈ b.ents, entB e = true := fun e he => by
  obtain ⟨j, hj, rfl⟩ := List.getElem_of_mem he
  exact ((nextB_iff _ _).1 (hrun j hj).1).1
 have hbd : ∀ q (hq : q < b.ents.length), 1 ≤ b.ents[q].idx ∧ b.ents[q].idx ≤ 2000 := fun q hq => ((entB_iff _).1 (hents _ (List.getElem_mem hq))).1
 have hdis : ∀ p q (hp : p < b.ents.length) (hq : q < b.ents.length), p < q → (slotOfM b.ents[p].idx).toNat ≠ (slotOfM b.ents[q].idx).toNat := fun p q hp hq hpq => by
  have e1 := hidx p hp
  have e2 := hidx q hq
  exact slot_ne (hbd p hp) (hbd q hq) (by omega) (by omega)
 have hro : ∀ r ∈ rowsOf h b, rowOk r = true ∧ r.length < 48 := by rw [← rowsTo_all]; exact rows_ok ho hents _
 have hk : keptB (onBoth (rowsOf h b)) = true := (keptB_iff _).2 ⟨h2, by unfold onBoth; simp [hlen]⟩
 have hat : ∀ (I : Nat) (_hI : I < 22), rightAt (onBoth (rowsOf h b)) (I : Int) = [(rowsOf h b).getD I []] := fun I hI => by
  rw [onBoth_right h2 hro (by rw [hlen]; exact hI)]
  simp [List.getD, List.getElem?_eq_getElem (show I < (rowsOf h b).length by rw [hlen]; exact hI)]
 have hlow : ∀ I : Nat, I < 2 → (rowsOf h b).getD I [] = if (h.num % 2).toNat = I then headRowM h else [] := fun I hI => by
  rw [← rowsTo_all]
  exact rowsTo_other (by omega) _ (Nat.le_refl _) fun q hq _ => by have := (slot_lt (hbd q hq)).1; omega
 have hnum := ((headOkB_iff h).1 ho).2.1
 have hhead : headInM (onBoth (rowsOf h b)) = (h, true) := by
  unfold headInM
  rw [if_pos hk]
  have r0 := hat 0 (by omega)
  have r1 := hat 1 (by omega)
  rw [hlow 0 (by omega)] at r0
  rw [hlow 1 (by omega)] at r1
  have hz : (rowHeadM []).2 = false := by rw [rowHead_len (by simp)]
  have hT : headTo (onBoth (rowsOf h b)) 2 = bestTo 1 (bestTo 0 (headZ, false) (rightAt (onBoth (rowsOf h b)) (0 : Nat)) (rightAt (onBoth (rowsOf h b)) (0 : Nat)).length) (rightAt (onBoth (rowsOf h b)) (1 : Nat)) (rightAt (onBoth (rowsOf h b)) (1 : Nat)).length := rfl
  rw [hT, r0, r1]
  have hmm : h.num % 2 = 0 ∨ h.num % 2 = 1 := by omega
  rcases hmm with hm | hm
  · rw [if_pos (by rw [hm]; rfl), if_neg (by rw [hm]; decide)]
    show better 1 (better 0 (headZ, false) (headRowM h)) [] = _
    rw [better_none hz]
    unfold better
    rw [head_back ho, if_pos ⟨rfl, hm, Or.inl rfl⟩]
  · rw [if_neg (by rw [hm]; decide), if_pos (by rw [hm]; rfl)]
    show better 1 (better 0 (headZ, false) []) (headRowM h) = _
    rw [better_none hz]
    unfold better
    rw [head_back ho, if_pos ⟨rfl, hm, Or.inl rfl⟩]
 have hbook : bookInM (onBoth (rowsOf h b)) h = b := by
  have e : b = ⟨h.base, h.tm, b.ents⟩ := by rw [← hbase.1, ← hbase.2]
  rw [e]
  show bookInM (onBoth (rowsOf h b)) h = _
  refine book_run hk ho hn20 (fun j hj => ?_) ?_
  · obtain ⟨n1, n2, n3, n4⟩ := hrun j hj
    have hi := hidx j hj
    have hs := slot_lt (hbd j hj)
    have hL : lastB (preX h b.ents j).1 + 1 = b.ents[j].idx := by rw [pre_last (by omega), hi, hbase.1]; omega
    have hR : rightAt (onBoth (rowsOf h b)) (slotOfM (lastB (preX h b.ents j).1 + 1)) = [slotRowM b.ents[j]] := by
     rw [hL, ← hs.2.2, hat _ hs.2.1]
     congr 1
     rw [← rowsTo_all]
     exact rowsTo_slot hbd hdis hj _ hj (Nat.le_refl _)
    refine next_pick n3 n4 n1 n2 (by rw [hR]; simp) fun r hr => ?_
    rw [hR] at hr
    exact Or.inl (by simpa using hr)
  · have hL : lastB (preX h b.ents b.ents.length).1 + 1 = h.base + (b.ents.length : Int) + 1 := by rw [pre_last (Nat.le_refl _)]
    unfold nextM
    rw [hL]
    obtain ⟨hb0, _⟩ := (headOkB_iff h).1 ho
    have hno : ∀ r ∈ rightAt (onBoth (rowsOf h b)) (slotOfM (h.base + (b.ents.length : Int) + 1)), fitsM (preX h b.ents b.ents.length).1 (preX h b.ents b.ents.length).2 r = false := by
     intro r hr
     rw [Bool.eq_false_iff]
     intro hf
     obtain ⟨f1, f2, f3, _⟩ := (fits_iff _ _ _).1 hf
     obtain ⟨_, a2, _⟩ := app_yes f3
     have h20 : (preX h b.ents b.ents.length).1.ents.length ≠ 20 := ((nextB_iff _ _).1 a2).2.2.2
     have h20' : b.ents.length ≠ 20 := by
      have : (preX h b.ents b.ents.length).1.ents.length = b.ents.length := by show (b.ents.take b.ents.length).length = _; rw [List.take_length]
      omega
     have hent := ((nextB_iff _ _).1 a2).1
     have hid := (entB_iff _).1 hent
     rw [f2, hL] at hid
     have hin := hid.1
     have hs := slot_lt hin
     rw [← hs.2.2, hat _ hs.2.1] at hr
     have hr : r = (rowsOf h b).getD (slotOfM (h.base + (b.ents.length : Int) + 1)).toNat [] := by simpa using hr
     rw [← rowsTo_all, rowsTo_other hs.2.1 _ (Nat.le_refl _) (fun q hq _ => by
      have e1 := hidx q hq
      rw [hbase.1] at e1
      exact slot_ne (hbd q hq) hin (by omega) (by omega)), if_neg (by omega)] at hr
     subst hr
     rw [rowSlot_len (by simp)] at f1
     cases f1
    rw [pick_no hno]
 unfold recoveredM
 rw [hhead, if_pos rfl]
 show RecM.mk (recTwo (onBoth (rowsOf h b)) h (bookInM (onBoth (rowsOf h b)) h)) h (bookInM (onBoth (rowsOf h b)) h) true = _
 rw [hbook]
 unfold recTwo
 rw [onBoth_synced h2]
 have h3 := mend_all (ka := (rowsOf h b).map withSum) (kb := (rowsOf h b).map withSum) (rows := rowsOf h b) h2 (by simp) hro
 rw [hlen] at h3
 rw [show mendTo (onBoth (rowsOf h b)) (rowsOf h b) 22 = onBoth (rowsOf h b) from h3.1]
theorem book_facts {t : TwoM} {h : HeadM} (hk : keptB t = true) (ho : headOkB h = true) : ∀ j (hj : j < (bookInM t h).ents.length), nextB (preX h (bookInM t h).ents j).1 (bookInM t h).ents[j] = true ∧ mayB (preX h (bookInM t h).ents j).2 (bookInM t h).ents[j] = true ∧ bookB (preX h (bookInM t h).ents j).1 = true ∧ seenB (preX h (bookInM t h).ents j).2 = true := by
 have hbe : bookInM t h = (bookAt t h 21).1 := by unfold bookInM; rw [if_pos ⟨hk, ho⟩]
 rw [hbe]
 exact fun j hj => bookAt_next ho hj
theorem synced_shape {t : TwoM} (hk : keptB t = true) : ∃ ka kb, bothSynced t = ⟨⟨ka, []⟩, ⟨kb, []⟩⟩ ∧ ka.length = 22 ∧ twoOk ⟨⟨ka, []⟩, ⟨kb, []⟩⟩ = true := by
 obtain ⟨k1, k2⟩ := (keptB_iff _).1 (keptB_sync2 hk)
 obtain ⟨q1, _⟩ := (keptB_iff t).1 hk
 obtain ⟨d1, d2, _⟩ := twoOk_iff.1 q1
 have hs : bothSynced t = ⟨⟨fellTo true [] t.a.kept t.a.wait t.a.wait.length, []⟩, ⟨fellTo true [] t.b.kept t.b.wait t.b.wait.length, []⟩⟩ := by
  unfold bothSynced
  rw [if_pos q1]
  unfold synced fall
  rw [if_pos d1, if_pos d2]
 rw [hs] at k1 k2
 exact ⟨_, _, hs, k2, k1⟩
theorem rec_two {t : TwoM} {h : HeadM} {b : BookM} (hk : keptB t = true) (hro : ∀ r ∈ rowsOf h b, rowOk r = true ∧ r.length < 48) : recTwo t h b = onBoth (rowsOf h b) ∧ twoOk (onBoth (rowsOf h b)) = true := by
 obtain ⟨ka, kb, hs, k2, k1⟩ := synced_shape hk
 have hlen := rowsOf_len h b
 have hm := mend_all k1 (by rw [hlen, k2]) hro
 rw [hlen] at hm
 refine ⟨?_, hm.2⟩
 unfold recTwo
 rw [hs]
 exact hm.1
theorem rec_yes {t : TwoM} (hi : (headInM t).2 = true) : recoveredM t = ⟨recTwo t (headInM t).1 (bookInM t (headInM t).1), (headInM t).1, bookInM t (headInM t).1, true⟩ := by unfold recoveredM; rw [if_pos hi]
theorem recovered_again {t : TwoM} (hi : (headInM t).2 = true) : ∃ rows, (recoveredM t).two = onBoth rows ∧ twoOk (onBoth rows) = true ∧ rows.length = 22 ∧ (∀ fs, recoveredM (bothFallen (onBoth rows) fs) = recoveredM t) ∧
    (recoveredM t).ok = true ∧ headOkB (recoveredM t).head = true ∧ bookB (recoveredM t).book = true ∧ (recoveredM t).book.base = (recoveredM t).head.base ∧ rows = rowsOf (recoveredM t).head (recoveredM t).book := by
 obtain ⟨hk, ho⟩ := headIn_ok hi
 obtain ⟨hb, hbase, htm⟩ := bookIn_ok hk ho
 have hrun := book_facts hk ho
 have hrec := rec_yes hi
 obtain ⟨R, hR⟩ : ∃ R, R = recoveredM t := ⟨_, rfl⟩
 rw [← hR] at hrec ⊢
 clear hR
 obtain ⟨b, hbb⟩ : ∃ b, b = bookInM t (headInM t).1 := ⟨_, rfl⟩
 rw [← hbb] at hb hbase htm hrun hrec
 clear hbb
 obtain ⟨h, hh⟩ : ∃ h, h = (headInM t).1 := ⟨_, rfl⟩
 rw [← hh] at ho hbase htm hrun hrec
 clear hh hi
 have hents : ∀ e ∈ b.ents, entB e = true := fun e he => by
  obtain ⟨j, hj, rfl⟩ := List.getElem_of_mem he
  exact ((nextB_iff _ _).1 (hrun j hj).1).1
 have hro : ∀ r ∈ rowsOf h b, rowOk r = true ∧ r.length < 48 := by rw [← rowsTo_all]; exact rows_ok ho hents _
 obtain ⟨htwo, h2⟩ := rec_two hk hro
 rw [htwo] at hrec
 have hagain := recover_rows ho hb ⟨hbase, htm⟩ hrun h2
 have hlen := rowsOf_len h b
 obtain ⟨rows, hrr⟩ : ∃ rows, rows = rowsOf h b := ⟨_, rfl⟩
 rw [← hrr] at hrec hagain h2 hlen
 subst hrec
 refine ⟨rows, rfl, h2, hlen, fun fs => ?_, rfl, ho, hb, hbase, hrr⟩
 rw [onBoth_fallen h2]
 exact hagain
theorem rec_shape {t : TwoM} {h : HeadM} {b : BookM} (hi : headInM t = (h, true)) (hb : bookInM t h = b) : ∃ rows, recoveredM t = ⟨onBoth rows, h, b, true⟩ ∧ twoOk (onBoth rows) = true ∧ rows = rowsOf h b ∧ rows.length = 22 ∧ ∀ fs, recoveredM (bothFallen (onBoth rows) fs) = ⟨onBoth rows, h, b, true⟩ := by
 have h2 : (headInM t).2 = true := by rw [hi]
 have hrec := rec_yes h2
 rw [hi] at hrec
 have hrec : recoveredM t = ⟨recTwo t h (bookInM t h), h, bookInM t h, true⟩ := hrec
 rw [hb] at hrec
 obtain ⟨rows, g1, g2, g3, g4, _, _, _, _, g9⟩ := recovered_again h2
 obtain ⟨R, hR⟩ : ∃ R, R = recoveredM t := ⟨_, rfl⟩
 rw [← hR] at hrec g1 g4 g9 ⊢
 clear hR
 obtain ⟨T, hT⟩ : ∃ T, T = recTwo t h b := ⟨_, rfl⟩
 rw [← hT] at hrec
 clear hT
 subst hrec
 have g1 : T = onBoth rows := g1
 subst g1
 exact ⟨rows, rfl, g2, g9, g3, g4⟩
section
variable {α : Type} {w w' : World} {e : TypeId} {k : Nat} {f : α → List Dat} {l : List α} {fp : List Nat}
def Src (w : World) (A : Option Addr) (m k : Nat) (us : List Value) : Prop := 0 < m → ∃ b off, A = some ⟨b, off, none⟩ ∧ ∀ i, i < m * k → w.cell? ⟨b, off + i, none⟩ = us[i]?
theorem append_many {P : Program} {t ty : TypeId} {z : Value} {bytes : Nat} {A A' : Option Addr} {n c m c' : Nat} {us2 : List Value} {f2 : List Nat} {l2 : List α} (ht : P.underlying t = some (.slice e))
    (hinfo : (P.info? e).map (fun i => (i.zero, i.size, i.bytes)) = some (some z, k, bytes)) (hzs : z.cells.size = k) (k0 : 0 < k) (hk : ∀ x, (f x).length = k)
    (h : Ow w [Go.Proofs.YtmjifhjhialcbaaGreat.lst e k f l] [.slice A n c] fp) (hn : fp.Nodup) (hsrc : Src w A' m k us2) (ho : Ow w (l2.flatMap f) us2 f2) (hl2 : l2.length = m) (hn2 : f2.Nodup) (hd : ∀ p ∈ f2, p ∉ fp) (hl : n + m ≤ 2097154) (hby : bytes ≤ 1048576) :
    ∃ A3 c3 w3 fp3, (Builtin.append_ #[t, t] ty #[.slice A n c, .slice A' m c']).run P w = .ok (.slice A3 (n + m) c3) w3 ∧ Ow w3 [Go.Proofs.YtmjifhjhialcbaaGreat.lst e k f (l ++ l2)] [.slice A3 (n + m) c3] fp3 ∧ fp3.Nodup ∧ (∀ p ∈ fp3, p ∈ fp ∨ p ∈ f2 ∨ p = w.heap.size) ∧ Touch fp w w3 := by
 obtain ⟨i0, hi0, hz⟩ := Option.map_eq_some_iff.1 hinfo
 simp only [Prod.mk.injEq] at hz
 obtain ⟨hz0, hz1, hz2⟩ := hz
 rcases A' with _ | ad
 · have hm : m = 0 := by
     rcases Nat.eq_zero_or_pos m with h0 | h0
     · exact h0
     · obtain ⟨b, off, e, _⟩ := hsrc h0; cases e
   subst hm
   have hl0 : l2 = [] := List.eq_nil_of_length_eq_zero hl2
   subst hl0
   have hf2 : f2 = [] := by
    have h0 : us2 = [] := by
     have := ho.len
     exact List.eq_nil_of_length_eq_zero (by simpa using this)
    subst h0
    exact Ow.nil_foot ho
   refine ⟨A, c, w, fp, ?_, by simpa using h, hn, fun p hp => .inl hp, Touch.refl _ _⟩
   obtain ⟨us, fp1, h1, _, _⟩ := h.lst hk k0
   rcases h1.2 with ⟨hv, h0⟩ | ⟨g, cap, cur, hv, _, _, hnc, _⟩
   · injection hv with h1 h2 h3
     subst h1 h2 h3
     simp [Builtin.append_, run_underlying ht, sizeOf, typeInfo, hi0, Builtin.lenOf, Builtin.firstCells]
   · injection hv with h1 h2 h3
     subst h1 h3
     have hnc' : n ≤ c := by omega
     simp [Builtin.append_, run_underlying ht, sizeOf, typeInfo, hi0, Builtin.lenOf, Builtin.firstCells, hnc', storeCells]
 · obtain ⟨us, fp1, h1, h2, rfl⟩ := h.lst hk k0
   have hnl : n = l.length := by
    rcases h1.2 with ⟨h0, h9⟩ | ⟨_, _, _, h0, _⟩
    · injection h0; omega
    · injection h0
   rw [← hnl] at h1
   have hle : us2.length = m * k := by rw [ho.len, flatMap_len hk, hl2]
   obtain ⟨v', w', hrun, q2, q3, _, q5⟩ := run_append_own_at (P := P) w 0 t ty e i0 _ k bytes ht hi0 hz0 hz1 hz2 hzs k0 _ n _ h1 ad m c' us2 hle
    (by intro j u hj
        have hjm : j < m * k := by
         rcases Nat.lt_or_ge j us2.length with h | h
         · omega
         · rw [List.getElem?_eq_none h] at hj; cases hj
        have hm0 : 0 < m := by
         rcases Nat.eq_zero_or_pos m with h0 | h0
         · subst h0; simp at hjm
         · exact h0
        obtain ⟨b, off, e1, hc⟩ := hsrc hm0
        injection e1 with e1
        subst e1
        have hadd : (⟨b, off, none⟩ : Addr).add j = ⟨b, off + j, none⟩ := by unfold Addr.add; split <;> simp_all
        rw [hadd, hc j hjm, hj])
    ho.one (by simp only [maxLen]; omega)
    (by have : (n + m) * bytes ≤ 2097154 * 1048576 := Nat.mul_le_mul (by omega) hby
        omega) (Nat.zero_le _)
   have hlt := h.lt
   have tt : Touch (Value.slice A n c).ownBlock.toList w w' := Touch.of_grown q3 (fun p hp => by rw [hp]; simp)
   have hn' := hn
   rw [List.nodup_append] at hn'
   have hap : (l ++ l2).flatMap f = l.flatMap f ++ l2.flatMap f := by simp
   have o1 := h2.touch tt (fun p hp hm => hn'.2.2 p hm p hp rfl)
   have o2 := ho.touch tt (fun p hp hm => hd p hp (List.mem_append_left _ hm))
   have o3 := o1.append o2
   rw [← hap] at o3
   have key : ∃ A3 c3, v' = .slice A3 (n + m) c3 := by
    rcases q2.2 with ⟨hv, hnm⟩ | ⟨g, cap, cur, hv, _⟩
    · exact ⟨none, 0, by rw [hv, hnm]⟩
    · exact ⟨_, _, hv⟩
   obtain ⟨A3, c3, hv⟩ := key
   subst hv
   have hgnew : ∀ p ∈ fp1 ++ f2, p ∉ (Value.slice A3 (n + m) c3).ownBlock.toList := by
    intro p hp hm
    rcases q5 with q5 | q5
    · rw [q5] at hm
      rcases List.mem_append.1 hp with hp | hp
      · exact hn'.2.2 p hm p hp rfl
      · exact hd p hp (List.mem_append_left _ hm)
    · rw [q5] at hm
      have e2 : p = w.heap.size := by simpa using hm
      rcases List.mem_append.1 hp with hp | hp
      · have := hlt p (List.mem_append_right _ hp); omega
      · have := ho.lt p hp; omega
   refine ⟨A3, c3, w', _, hrun, Ow.of_lst q2 o3, ?_, fun p hp => ?_, tt.mono fun p hp => List.mem_append_left _ hp⟩
   · rw [List.nodup_append, List.nodup_append]
     refine ⟨by cases (Value.slice A3 (n + m) c3).ownBlock <;> simp, ⟨hn'.2.1, hn2, fun p hp q hq e => hd q hq (by subst e; exact List.mem_append_right _ hp)⟩, fun p hp q hq e => ?_⟩
     subst e
     exact hgnew p hq hp
   · rcases List.mem_append.1 hp with hp | hp
     · rcases q5 with q5 | q5
       · rw [q5] at hp
         exact .inl (List.mem_append_left _ hp)
       · rw [q5] at hp
         right; right
         simpa using hp
     · rcases List.mem_append.1 hp with hp | hp
       · exact .inl (List.mem_append_right _ hp)
       · exact .inr (.inl hp)
theorem wpList_append_many {P : Program} {t : TypeId} {z : Value} {bytes : Nat} {A A' : Option Addr} {n c m c' : Nat} {us2 : List Value} {f2 : List Nat} {l2 : List α} {ops : Array Oper} {rest : List Oper} {op : Oper} {a : Act} {Q : Exit → Act → World → Prop}
    (hgd : op.guard = none) (s x : Operand) (hop : op.op = .call { callee := .builtin .append, args := #[s, x], argTypes := #[t, t] }) (ht : P.underlying t = some (.slice e))
    (hinfo : (P.info? e).map (fun i => (i.zero, i.size, i.bytes)) = some (some z, k, bytes)) (hzs : z.cells.size = k) (k0 : 0 < k) (hk : ∀ x, (f x).length = k)
    (hse : a.eval s = .slice A n c) (h : Ow w [Go.Proofs.YtmjifhjhialcbaaGreat.lst e k f l] [.slice A n c] fp) (hn : fp.Nodup) (hx : a.eval x = .slice A' m c') (hsrc : Src w A' m k us2) (ho : Ow w (l2.flatMap f) us2 f2) (hl2 : l2.length = m) (hn2 : f2.Nodup) (hd : ∀ p ∈ f2, p ∉ fp) (hl : n + m ≤ 2097154) (hby : bytes ≤ 1048576)
    (hK : ∀ A3 c3 w3 fp3, Ow w3 [Go.Proofs.YtmjifhjhialcbaaGreat.lst e k f (l ++ l2)] [.slice A3 (n + m) c3] fp3 → fp3.Nodup → (∀ p ∈ fp3, p ∈ fp ∨ p ∈ f2 ∨ p = w.heap.size) → Touch fp w w3 → wpList P ops Q rest (a.put op.dst (.slice A3 (n + m) c3)) w3) :
    wpList P ops Q (op :: rest) a w := by
 refine wpList_plain hgd fun K hK' => ?_
 obtain ⟨A3, c3, w3, fp3, hrun, a1, a2, a3, a4⟩ := append_many (P := P) (ty := op.type) (c' := c') ht hinfo hzs k0 hk h hn hsrc ho hl2 hn2 hd hl hby
 unfold Oper.wp execOp
 simp only [hop, resolve, invoke, builtin, Sem.run_bind, Sem.run_pure, Result.andThen_ok, List.map_toArray, List.map_cons, List.map_nil, hse, hx, hrun]
 exact hK' _ _ (hK A3 c3 w3 fp3 a1 a2 a3 a4)
theorem wp_append_many {P : Program} {t : TypeId} {z : Value} {bytes : Nat} {A A' : Option Addr} {n c m c' : Nat} {us2 : List Value} {f2 : List Nat} {l2 : List α} {op : Oper} {a : Act} {Q : Exit → Act → World → Prop} {K : Act → World → Prop}
    (s x : Operand) (hop : op.op = .call { callee := .builtin .append, args := #[s, x], argTypes := #[t, t] }) (ht : P.underlying t = some (.slice e))
    (hinfo : (P.info? e).map (fun i => (i.zero, i.size, i.bytes)) = some (some z, k, bytes)) (hzs : z.cells.size = k) (k0 : 0 < k) (hk : ∀ x, (f x).length = k)
    (hse : a.eval s = .slice A n c) (h : Ow w [Go.Proofs.YtmjifhjhialcbaaGreat.lst e k f l] [.slice A n c] fp) (hn : fp.Nodup) (hx : a.eval x = .slice A' m c') (hsrc : Src w A' m k us2) (ho : Ow w (l2.flatMap f) us2 f2) (hl2 : l2.length = m) (hn2 : f2.Nodup) (hd : ∀ p ∈ f2, p ∉ fp) (hl : n + m ≤ 2097154) (hby : bytes ≤ 1048576)
    (hK : ∀ A3 c3 w3 fp3, Ow w3 [Go.Proofs.YtmjifhjhialcbaaGreat.lst e k f (l ++ l2)] [.slice A3 (n + m) c3] fp3 → fp3.Nodup → (∀ p ∈ fp3, p ∈ fp ∨ p ∈ f2 ∨ p = w.heap.size) → Touch fp w w3 → K (a.put op.dst (.slice A3 (n + m) c3)) w3) :
    Oper.wp P op a w K Q := by
 obtain ⟨A3, c3, w3, fp3, hrun, a1, a2, a3, a4⟩ := append_many (P := P) (ty := op.type) (c' := c') ht hinfo hzs k0 hk h hn hsrc ho hl2 hn2 hd hl hby
 unfold Oper.wp execOp
 simp only [hop, resolve, invoke, builtin, Sem.run_bind, Sem.run_pure, Result.andThen_ok, List.map_toArray, List.map_cons, List.map_nil, hse, hx, hrun]
 exact hK A3 c3 w3 fp3 a1 a2 a3 a4
theorem wp_append_fresh {P : Program} {t : TypeId} {z : Value} {bytes : Nat} {A A' : Option Addr} {c m c' : Nat} {us2 : List Value} {f2 : List Nat} {l2 : List α} {op : Oper} {a : Act} {Q : Exit → Act → World → Prop} {K : Act → World → Prop}
    (s x : Operand) (hop : op.op = .call { callee := .builtin .append, args := #[s, x], argTypes := #[t, t] }) (ht : P.underlying t = some (.slice e))
    (hinfo : (P.info? e).map (fun i => (i.zero, i.size, i.bytes)) = some (some z, k, bytes)) (hzs : z.cells.size = k) (k0 : 0 < k) (hk : ∀ x, (f x).length = k)
    (hse : a.eval s = .slice A 0 c) (h : Ow w [Go.Proofs.YtmjifhjhialcbaaGreat.lst e k f ([] : List α)] [.slice A 0 c] fp) (hn : fp.Nodup) (hx : a.eval x = .slice A' m c') (hsrc : Src w A' m k us2) (ho : Ow w (l2.flatMap f) us2 f2) (hl2 : l2.length = m) (hn2 : f2.Nodup) (hd : ∀ p ∈ f2, p ∉ fp) (hl : m ≤ 2097154) (hby : bytes ≤ 1048576)
    (hK : ∀ A3 c3 w3 fp3, Ow w3 [Go.Proofs.YtmjifhjhialcbaaGreat.lst e k f l2] [.slice A3 m c3] fp3 → fp3.Nodup → (∀ p ∈ fp3, p ∈ fp ∨ p ∈ f2 ∨ p = w.heap.size) → Touch fp w w3 → K (a.put op.dst (.slice A3 m c3)) w3) :
    Oper.wp P op a w K Q := by
 refine wp_append_many s x hop ht hinfo hzs k0 hk hse h hn hx hsrc ho hl2 hn2 hd (by omega) hby ?_
 intro A3 c3 w3 fp3 a1 a2 a3 a4
 rw [Nat.zero_add] at a1 ⊢
 exact hK A3 c3 w3 fp3 a1 a2 a3 a4
theorem wpList_append_fresh {P : Program} {t : TypeId} {z : Value} {bytes : Nat} {A A' : Option Addr} {c m c' : Nat} {us2 : List Value} {f2 : List Nat} {l2 : List α} {ops : Array Oper} {rest : List Oper} {op : Oper} {a : Act} {Q : Exit → Act → World → Prop}
    (hgd : op.guard = none) (s x : Operand) (hop : op.op = .call { callee := .builtin .append, args := #[s, x], argTypes := #[t, t] }) (ht : P.underlying t = some (.slice e))
    (hinfo : (P.info? e).map (fun i => (i.zero, i.size, i.bytes)) = some (some z, k, bytes)) (hzs : z.cells.size = k) (k0 : 0 < k) (hk : ∀ x, (f x).length = k)
    (hse : a.eval s = .slice A 0 c) (h : Ow w [Go.Proofs.YtmjifhjhialcbaaGreat.lst e k f ([] : List α)] [.slice A 0 c] fp) (hn : fp.Nodup) (hx : a.eval x = .slice A' m c') (hsrc : Src w A' m k us2) (ho : Ow w (l2.flatMap f) us2 f2) (hl2 : l2.length = m) (hn2 : f2.Nodup) (hd : ∀ p ∈ f2, p ∉ fp) (hl : m ≤ 2097154) (hby : bytes ≤ 1048576)
    (hK : ∀ A3 c3 w3 fp3, Ow w3 [Go.Proofs.YtmjifhjhialcbaaGreat.lst e k f l2] [.slice A3 m c3] fp3 → fp3.Nodup → (∀ p ∈ fp3, p ∈ fp ∨ p ∈ f2 ∨ p = w.heap.size) → Touch fp w w3 → wpList P ops Q rest (a.put op.dst (.slice A3 m c3)) w3) :
    wpList P ops Q (op :: rest) a w :=
 wpList_plain hgd fun _ hK' => wp_append_fresh s x hop ht hinfo hzs k0 hk hse h hn hx hsrc ho hl2 hn2 hd hl hby fun A3 c3 w3 fp3 a1 a2 a3 a4 => hK' _ _ (hK A3 c3 w3 fp3 a1 a2 a3 a4)
end
/-! ### Flat elements -/
section
variable {α : Type} {w w' : World} {B : Nat} {e : TypeId} {k : Nat} {f : α → List Dat} {g : α → List Int} {l : List α}
theorem flat_flat (hf : ∀ x, f x = (g x).flatMap fun y => [Dat.int y]) (l : List α) : l.flatMap f = (l.flatMap g).flatMap fun y => [Dat.int y] := by
 induction l with
 | nil => rfl
 | cons x l ih => rw [List.flatMap_cons, List.flatMap_cons, List.flatMap_append, ih, hf]
theorem ow_flat (hf : ∀ x, f x = (g x).flatMap fun y => [Dat.int y]) (w : World) (l : List α) : Ow w (l.flatMap f) (ivals (l.flatMap g)) [] := by
 rw [flat_flat hf]
 exact ow_ints_mk _
theorem Rd.src (hf : ∀ x, f x = (g x).flatMap fun y => [Dat.int y]) (hk : ∀ x, (f x).length = k) (k0 : 0 < k) {A : Option Addr} {n c : Nat} (h : Rd w B [Go.Proofs.YtmjifhjhialcbaaGreat.lst e k f l] [.slice A n c]) : Src w A n k (ivals (l.flatMap g)) ∧ l.length = n := by
 obtain ⟨A', n', c', e1, hl, _, _, hel⟩ := Rd.lst hk k0 h
 injection e1 with e1 e2 e3
 subst e1 e2 e3
 refine ⟨fun hn => ?_, hl⟩
 obtain ⟨b, off, hA, _, hc⟩ := hel hn
 refine ⟨b, off, hA, fun i hi => ?_⟩
 have hkg : ∀ x, (g x).length = k := fun x => by
  have h1 := hk x
  have h2 : ∀ q : List Int, (q.flatMap fun y => [Dat.int y]).length = q.length := fun q => by
   induction q with
   | nil => rfl
   | cons x q ih => rw [List.flatMap_cons, List.length_append, ih, List.length_cons, Nat.add_comm]; rfl
  rw [hf x, h2] at h1
  exact h1
 have hq : i / k < l.length := by rw [hl]; exact Nat.div_lt_of_lt_mul (by rw [Nat.mul_comm]; exact hi)
 have hr : i % k < k := Nat.mod_lt _ k0
 obtain ⟨es, he, hrd, hcell⟩ := hc (i / k) hq
 have h1 := hcell (i % k) hr
 have h2 : off + i / k * k + i % k = off + i := by
  have := Nat.div_add_mod i k
  rw [Nat.mul_comm] at this
  omega
 rw [h2] at h1
 rw [h1]
 rw [hf] at hrd
 rw [rd_ints hrd]
 have h3 : l.flatMap g = (l.take (i / k)).flatMap g ++ (g l[i / k] ++ (l.drop (i / k + 1)).flatMap g) := by
  have e1 : l = l.take (i / k) ++ (l[i / k] :: l.drop (i / k + 1)) := by rw [← List.drop_eq_getElem_cons hq, List.take_append_drop]
  have e2 := congrArg (List.flatMap g) e1
  rw [List.flatMap_append, List.flatMap_cons] at e2
  exact e2
 have h4 : ((l.take (i / k)).flatMap g).length = i / k * k := by
  have : ∀ q : List α, (q.flatMap g).length = q.length * k := fun q => by
   induction q with
   | nil => simp
   | cons x q ih => rw [List.flatMap_cons, List.length_append, ih, hkg, List.length_cons, Nat.add_mul, Nat.one_mul, Nat.add_comm]
  rw [this, List.length_take, Nat.min_eq_left (Nat.le_of_lt hq)]
 rw [ivals_get, ivals_get, h3, List.getElem?_append_right (by rw [h4]; have := Nat.div_add_mod i k; rw [Nat.mul_comm] at this; omega), h4]
 have h5 : i - i / k * k = i % k := by
  have := Nat.div_add_mod i k
  rw [Nat.mul_comm] at this
  omega
 rw [h5, List.getElem?_append_left (by rw [hkg]; exact hr)]
end
theorem Sep.addAt {w : World} {base : Nat} {is : List Item} {ds : List Dat} {vs : List Value} {f : List Nat} (h : Sep w base is) (o : Ow w ds vs f) (hn : (f ++ foots is).Nodup) (hb : ∀ p ∈ f, base ≤ p) : Sep w base (.own ds vs f :: is) := by
 refine ⟨fun n i hi => ?_, hn, fun p hp => ?_⟩
 · cases n with
   | zero => simp at hi; subst hi; exact o
   | succ n => exact h.holds n i (by simpa using hi)
 · rcases List.mem_append.1 (show p ∈ f ++ foots is from hp) with hp | hp
   · exact hb p hp
   · exact h.ge p hp
theorem Sep.blk0 {α : Type} {w : World} {base q : Nat} {is : List Item} {e : TypeId} {k : Nat} {f : α → List Dat} (h : Sep w base (.blk q #[] e :: is)) : Sep w base (.own [lst e k f []] [.slice (some ⟨q, 0, none⟩) 0 0] [q] :: is) := by
 refine ⟨fun n i hi => ?_, h.nodup, h.ge⟩
 cases n with
 | zero =>
  simp at hi
  subst hi
  have hb : w.heap[q]? = some (.cells #[] e (0, 0)) := h.at_ 0 rfl
  have h1 : w.ownsRow 0 e k (.slice (some ⟨q, 0, none⟩) 0 0) 0 [] := ⟨by simp, .inr ⟨q, 0, #[], rfl, Nat.zero_le _, hb, Nat.le_refl _, Nat.zero_le _, by simp, by simp⟩⟩
  have h2 : Ow w [Go.Proofs.YtmjifhjhialcbaaGreat.lst e k f []] [.slice (some ⟨q, 0, none⟩) 0 0] [q] := by
   have := Ow.of_lst (f := f) (l := []) h1 .nil
   simpa [Value.ownBlock] using this
  exact h2
 | succ n => exact h.holds (n + 1) i (by simpa using hi)
theorem Sep.flat {α : Type} {w : World} {base : Nat} {is : List Item} {f : α → List Dat} {g : α → List Int} (h : Sep w base is) (hf : ∀ x, f x = (g x).flatMap fun y => [Dat.int y]) (l : List α) : Sep w base (.own (l.flatMap f) (ivals (l.flatMap g)) [] :: is) :=
 h.own0 (ow_flat hf w l)
theorem Src.of_blk {w : World} {g off m k : Nat} {cs : Array Value} {t : TypeId} {us : List Value} (h : Blk w g cs t) (hc : ∀ i, i < m * k → cs[off + i]? = us[i]?) : Src w (some ⟨g, off, none⟩) m k us :=
 fun _ => ⟨g, off, rfl, fun i hi => (h.cell (off + i)).trans (hc i hi)⟩
theorem Src.zero {w : World} {A : Option Addr} {k : Nat} {us : List Value} : Src w A 0 k us := fun h => absurd h (by omega)
/-! ### copy -/
theorem Sep.made {α : Type} {w : World} {base : Nat} {is : List Item} {e : TypeId} {k : Nat} {f : α → List Dat} {x0 : α} {zc : Array Value} (h : Sep w base is) (hle : base ≤ w.heap.size) (hk : zc.size = k) (k0 : 0 < k) (n : Nat) (hm : n ≤ maxLen) (hz : ∀ w, Ow w (f x0) zc.toList []) {p : Nat} (hp : w.heap.size = p) :
    Sep (w.alloc (.cells (madeCells zc (n * k)) e)) base (.own [lst e k f (List.replicate n x0)] [.slice (some ⟨p, 0, none⟩) n n] [p] :: is) := by
 subst hp
 refine (h.keep ((Below.refl _ _).alloc (Nat.le_refl _) _)).addAt (ow_made hk k0 n hm hz) ?_ (fun q hq => ?_)
 · show ([w.heap.size] ++ foots is).Nodup
   rw [List.singleton_append, List.nodup_cons]
   exact ⟨fun hm => Nat.lt_irrefl _ (h.lt _ hm), h.nodup⟩
 · have : q = w.heap.size := by simpa using hq
   omega
def MadeTB (w : World) (r : TwoM × Bool) (e : Ending) (w' : World) : Prop :=
 ∃ A0 n0 c0 A1 n1 c1 A2 n2 c2 A3 n3 c3, e = .returned (.tuple #[.agg #[.slice A0 n0 c0, .slice A1 n1 c1, .slice A2 n2 c2, .slice A3 n3 c3], .bool r.2]) ∧ Has w' w.heap.size r.1.cells [.slice A0 n0 c0, .slice A1 n1 c1, .slice A2 n2 c2, .slice A3 n3 c3] ∧ Below w.heap.size w w'
def CNewKept (p : Nat) : Prop := ∀  (w : World), Calls Tryz.prog p #[] w (MadeT w newKeptM)
def CKeptEntry (p : Nat) : Prop := ∀ (Aa0 : Option Addr) (na0 ca0 : Nat) (Aa1 : Option Addr) (na1 ca1 : Nat) (Aa2 : Option Addr) (na2 ca2 : Nat) (Aa3 : Option Addr) (na3 ca3 : Nat) (t : TwoM) (x0 x1 x2 x3 x4 x5 x6 x7 x8 : Int) (w : World), Rd w w.heap.size t.cells [.slice Aa0 na0 ca0, .slice Aa1 na1 ca1, .slice Aa2 na2 ca2, .slice Aa3 na3 ca3] → t.sz ≤ 1048576 → Calls Tryz.prog p #[.agg #[.slice Aa0 na0 ca0, .slice Aa1 na1 ca1, .slice Aa2 na2 ca2, .slice Aa3 na3 ca3], .agg #[.int .i64 x0, .int .i64 x1, .int .i64 x2, .int .i64 x3, .int .i64 x4, .int .i64 x5, .int .i64 x6, .int .i64 x7, .int .i64 x8]] w (MadeTB w (keptEntryM t ⟨x0, x1, x2, x3, x4, x5, x6, x7, x8⟩))
theorem Rd.headL {w : World} {B : Nat} {t : HeadM} {x0 x1 x2 : Int} {v3 : Value} (h : Rd w B t.cells [.int .i64 x0, .int .i64 x1, .int .i64 x2, v3]) : x0 = t.num ∧ x1 = t.base ∧ x2 = t.tm ∧ Rd w B [mrkD t.seen] [v3] := by
 obtain ⟨_, _, _, e0, e1, e2, rfl, hr⟩ := h.headT
 injection e0 with _ e0
 injection e1 with _ e1
 injection e2 with _ e2
 exact ⟨e0, e1, e2, hr⟩
end Go.Proofs.YtmjifhjhialcbaaGreat
