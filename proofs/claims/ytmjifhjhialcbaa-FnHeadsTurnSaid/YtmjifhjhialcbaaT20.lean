/- Parts of my texts: RecH TornM. -/
import Derived.Test.YtmjifhjhialcbaaT19
namespace Go.Proofs.Ytmjifhjhialcbaa
set_option maxRecDepth 100000
set_option linter.unusedVariables false
open Go.RowKit
theorem headOf_ok {l : List EntM} (hr : RunS l) {num : Int} {base : Nat} (hn : 0 ≤ num ∧ num ≤ (base : Int)) (h1 : 1 ≤ base) (h2 : base ≤ l.length) (h3 : base ≤ 20) : headOkB (headOf l num base) = true ∧ (headOf l num base).seen = overM [] (l.take base) := by
 have hl : (l.take base).length = base := by rw [List.length_take]; omega
 have hrt := hr.take base
 have ho := hrt.over0 (by omega)
 have hs : (headOf l num base).seen = overM [] (l.take base) := by
  show (seenOverM [] (l.take base)).1 = _
  rw [ho]
 have hlast := hrt.last (by omega)
 have hseen := hrt.seen (by omega) (Nat.le_refl _)
 rw [List.take_length] at hseen
 rw [hl] at hlast
 have hb : base - 1 < l.length := by omega
 have htm := (entB_iff _).1 (run_ents hr _ (List.getElem_mem hb))
 refine ⟨(headOkB_iff _).2 ⟨?_, hn, ?_, Or.inl ?_, by rw [hs]; exact hseen, by rw [hs]; exact hlast⟩, hs⟩
 · show 0 ≤ (base : Int) ∧ (base : Int) ≤ 2000
   omega
 · show 0 ≤ (if base = 0 then (0 : Int) else (l.getD (base - 1) ent0).tm) ∧ (if base = 0 then (0 : Int) else (l.getD (base - 1) ent0).tm) ≤ 1000000
   rw [if_neg (by omega), egetD hb]
   omega
 · show 0 < (base : Int)
   omega
theorem twin_head {d : DiskM} {h : HeadM} (hk : keptB (twin d) = true) (ho : headOkB h = true) (hw : d.wait.length < 60) : keptHeadM (twin d) h = (twin ⟨d.kept, d.wait ++ [(h.num % 2, withSum (headRowM h))]⟩, true) := by
 obtain ⟨h1, h2⟩ := (keptB_iff _).1 hk
 have hd : diskOk d = true := (twoOk_iff.1 h1).1
 obtain ⟨r1, r2⟩ := headRow_ok ho
 have hl : d.kept.length = 22 := h2
 have hwr : wrote d (h.num % 2) (withSum (headRowM h)) = (⟨d.kept, d.wait ++ [(h.num % 2, withSum (headRowM h))]⟩, true) := by
  unfold wrote
  rw [if_pos hd, if_pos ⟨by rw [show h.num % 2 = (((h.num % 2).toNat : Nat) : Int) by omega]; exact has_at (by omega), withSum_ok r1 (by omega), hw⟩]
 unfold keptHeadM
 rw [if_pos hk, if_pos ho]
 unfold bothWrote
 rw [if_pos h1]
 show (if (withSum (headRowM h)).length ≠ 0 ∧ (wrote d (h.num % 2) (withSum (headRowM h))).2 = true ∧ (wrote d (h.num % 2) (withSum (headRowM h))).2 = true then _ else _) = _
 rw [hwr, if_pos ⟨by rw [withSum_lenR r1 (by omega)]; omega, rfl, rfl⟩]
 show ((⟨(wrote d (h.num % 2) (withSum (headRowM h))).1, (wrote d (h.num % 2) (withSum (headRowM h))).1⟩ : TwoM), true) = _
 rw [hwr]
 rfl
theorem fold_late {q : Int} {e g : HeadM} (hg : headOkB g = true) (hq : g.num % 2 = q) (hlt : e.num < g.num) : ∀ (l : List (List Int)) , (∀ r ∈ l, r = headRowM g ∨ (rowHeadM r).2 = false) →
    (l.foldl (better q) (g, true) = (g, true)) ∧ (l.foldl (better q) (e, true) = if headRowM g ∈ l then (g, true) else (e, true))
 | [], _ => ⟨rfl, by simp⟩
 | r :: l, h => by
  obtain ⟨h1, h2⟩ := fold_late hg hq hlt l fun x hx => h x (List.mem_cons_of_mem _ hx)
  rcases h r (by simp) with rfl | hr
  · have b1 : better q (g, true) (headRowM g) = (g, true) := by
      unfold better
      rw [head_back hg]
      split <;> rfl
    have b2 : better q (e, true) (headRowM g) = (g, true) := by
     unfold better
     rw [head_back hg, if_pos ⟨rfl, hq, Or.inr hlt⟩]
    refine ⟨by rw [List.foldl_cons, b1, h1], ?_⟩
    rw [List.foldl_cons, b2, h1, if_pos (by simp)]
  · refine ⟨by rw [List.foldl_cons, better_none hr, h1], ?_⟩
    have hne : ¬ headRowM g = r := fun e9 => by
     subst e9
     rw [head_back hg] at hr
     cases hr
    rw [List.foldl_cons, better_none hr, h2]
    by_cases hm : headRowM g ∈ l
    · rw [if_pos hm, if_pos (List.mem_cons_of_mem _ hm)]
    · rw [if_neg hm, if_neg (by rw [List.mem_cons]; rintro (h9 | h9); exact hne h9; exact hm h9)]
theorem fold_zero {g : HeadM} (hg : headOkB g = true) (hq : g.num % 2 = 0) (hlt : 0 < g.num) : ∀ (l : List (List Int)) (b : Bool), (∀ r ∈ l, r = headRowM g ∨ r = headRowM headZ ∨ (rowHeadM r).2 = false) →
    (l.foldl (better 0) (g, true) = (g, true)) ∧ ((headRowM g ∈ l → l.foldl (better 0) (headZ, b) = (g, true)) ∧ (headRowM g ∉ l → ∃ b', l.foldl (better 0) (headZ, b) = (headZ, b')))
 | [], b, _ => ⟨rfl, (fun h => absurd h (by simp)), fun _ => ⟨b, rfl⟩⟩
 | r :: l, b, h => by
  have hh := fun b => fold_zero hg hq hlt l b fun x hx => h x (List.mem_cons_of_mem _ hx)
  rcases h r (by simp) with rfl | rfl | hr
  · have b1 : better 0 (g, true) (headRowM g) = (g, true) := by
      unfold better
      rw [head_back hg]
      split <;> rfl
    have b2 : better 0 (headZ, b) (headRowM g) = (g, true) := by
     unfold better
     rw [head_back hg, if_pos ⟨rfl, hq, Or.inr hlt⟩]
    exact ⟨by rw [List.foldl_cons, b1, (hh b).1], fun _ => by rw [List.foldl_cons, b2, (hh b).1], fun h9 => absurd (by simp) h9⟩
  · have b1 : better 0 (g, true) (headRowM headZ) = (g, true) := by
      unfold better
      rw [headZ_row, if_neg]
      rintro ⟨_, _, h9 | h9⟩
      · cases h9
      · have h9 : g.num < 0 := h9
        omega
    have hne : ¬ headRowM g = headRowM headZ := fun e9 => by
     have e1 := head_back hg
     rw [e9, headZ_row] at e1
     have : headZ = g := congrArg Prod.fst e1
     rw [← this] at hlt
     exact absurd hlt (by decide)
    have b2 : ∃ b', better 0 (headZ, b) (headRowM headZ) = (headZ, b') := by
     unfold better
     rw [headZ_row]
     split
     · exact ⟨true, rfl⟩
     · exact ⟨b, rfl⟩
    obtain ⟨b', b2⟩ := b2
    refine ⟨by rw [List.foldl_cons, b1, (hh b).1], fun h9 => ?_, fun h9 => ?_⟩
    · rw [List.foldl_cons, b2]
      rcases List.mem_cons.1 h9 with h9 | h9
      · exact absurd h9 hne
      · exact (hh b').2.1 h9
    · rw [List.foldl_cons, b2]
      exact (hh b').2.2 fun h8 => h9 (List.mem_cons_of_mem _ h8)
  · have hne : ¬ headRowM g = r := fun e9 => by
      subst e9
      rw [head_back hg] at hr
      cases hr
    refine ⟨by rw [List.foldl_cons, better_none hr, (hh b).1], fun h9 => ?_, fun h9 => ?_⟩
    · rw [List.foldl_cons, better_none hr]
      rcases List.mem_cons.1 h9 with h9 | h9
      · exact absurd h9 hne
      · exact (hh b).2.1 h9
    · rw [List.foldl_cons, better_none hr]
      exact (hh b).2.2 fun h8 => h9 (List.mem_cons_of_mem _ h8)
theorem turn_found {ca cb : List (List Int)} {e g : HeadM} (hk : keptB ⟨⟨ca, []⟩, ⟨cb, []⟩⟩ = true) (he : headOkB e = true) (hg : headOkB g = true) (hnum : g.num = e.num + 1) (hp : ca.getD (e.num % 2).toNat [] = withSum (headRowM e) ∧ cb.getD (e.num % 2).toNat [] = withSum (headRowM e))
    (hR : ∀ r ∈ rights (ca.getD (g.num % 2).toNat []) (cb.getD (g.num % 2).toNat []), r = headRowM g ∨ (r = headRowM headZ ∧ g.num % 2 = 0) ∨ (rowHeadM r).2 = false) :
    headInM ⟨⟨ca, []⟩, ⟨cb, []⟩⟩ = if headRowM g ∈ rights (ca.getD (g.num % 2).toNat []) (cb.getD (g.num % 2).toNat []) then (g, true) else (e, true) := by
 obtain ⟨hk1, hk2⟩ := (keptB_iff _).1 hk
 have hk2 : ca.length = 22 := hk2
 have hat : ∀ (I : Nat) (_hI : I < 22), rightAt ⟨⟨ca, []⟩, ⟨cb, []⟩⟩ (I : Int) = rights (ca.getD I []) (cb.getD I []) := fun I hI => rightAt_safe hk1 (by omega)
 have h0 := headRow_ok he
 have hn0 := ((headOkB_iff e).1 he).2.1.1
 unfold headInM
 rw [if_pos hk]
 have hT : headTo ⟨⟨ca, []⟩, ⟨cb, []⟩⟩ 2 = bestTo 1 (bestTo 0 (headZ, false) (rightAt ⟨⟨ca, []⟩, ⟨cb, []⟩⟩ (0 : Nat)) (rightAt ⟨⟨ca, []⟩, ⟨cb, []⟩⟩ (0 : Nat)).length) (rightAt ⟨⟨ca, []⟩, ⟨cb, []⟩⟩ (1 : Nat)) (rightAt ⟨⟨ca, []⟩, ⟨cb, []⟩⟩ (1 : Nat)).length := rfl
 rw [hT, hat 0 (by omega), hat 1 (by omega)]
 unfold bestTo
 rw [List.take_length, List.take_length]
 have hm : e.num % 2 = 0 ∨ e.num % 2 = 1 := by omega
 rcases hm with hm | hm
 · have hm2 : g.num % 2 = 1 := by omega
   rw [hm] at hp
   rw [hm2] at hR ⊢
   have hp : ca.getD 0 [] = withSum (headRowM e) ∧ cb.getD 0 [] = withSum (headRowM e) := hp
   have hR : ∀ r ∈ rights (ca.getD 1 []) (cb.getD 1 []), r = headRowM g ∨ (rowHeadM r).2 = false := fun r hr => by
    rcases hR r hr with h | ⟨_, h⟩ | h
    · exact Or.inl h
    · cases h
    · exact Or.inr h
   rw [hp.1, hp.2, rights_one h0.1 (by omega)]
   have b1 : [headRowM e].foldl (better 0) (headZ, false) = (e, true) := by
    show better 0 (headZ, false) (headRowM e) = _
    unfold better
    rw [head_back he, if_pos ⟨rfl, hm, Or.inl rfl⟩]
   rw [b1]
   exact (fold_late hg hm2 (by omega) _ hR).2
 · have hm2 : g.num % 2 = 0 := by omega
   rw [hm] at hp
   rw [hm2] at hR ⊢
   have hp : ca.getD 1 [] = withSum (headRowM e) ∧ cb.getD 1 [] = withSum (headRowM e) := hp
   have hR : ∀ r ∈ rights (ca.getD 0 []) (cb.getD 0 []), r = headRowM g ∨ r = headRowM headZ ∨ (rowHeadM r).2 = false := fun r hr => by
    rcases hR r hr with h | ⟨h, _⟩ | h
    · exact Or.inl h
    · exact Or.inr (Or.inl h)
    · exact Or.inr (Or.inr h)
   rw [hp.1, hp.2, rights_one h0.1 (by omega)]
   have hz := (fold_zero hg hm2 (by omega) _ false hR).2
   by_cases hin : headRowM g ∈ rights (ca.getD 0 []) (cb.getD 0 [])
   · have hin' : headRowM g ∈ rights (ca.getD (0 : Int).toNat []) (cb.getD (0 : Int).toNat []) := hin
     rw [hz.1 hin, if_pos hin']
     show better 1 (g, true) (headRowM e) = _
     unfold better
     rw [head_back he, if_neg]
     rintro ⟨_, _, h9 | h9⟩
     · cases h9
     · have h9 : g.num < e.num := h9
       omega
   · have hin' : ¬ headRowM g ∈ rights (ca.getD (0 : Int).toNat []) (cb.getD (0 : Int).toNat []) := hin
     obtain ⟨b', hz2⟩ := hz.2 hin
     rw [hz2, if_neg hin']
     show better 1 (headZ, b') (headRowM e) = _
     unfold better
     rw [head_back he, if_pos ⟨rfl, hm, Or.inr (show (0 : Int) < e.num by omega)⟩]
theorem unsummed_is {c r : List Int} (h : unsummed c = (r, true)) : r = c.take (c.length - 1) ∧ 0 < c.length := by
 unfold unsummed at h
 split at h
 next hc => exact ⟨(congrArg Prod.fst h).symm, hc.2.1⟩
 next => cases congrArg Prod.snd h
theorem torn_no {r0 r1 o r : List Int} {n : Nat} (hn : n = 9 ∨ n = 11) (l0 : r0.length = n + 2) (l1 : r1.length = n + 2) (k0 : rowOk r0 = true) (k1 : rowOk r1 = true) (t0 : r0.getD n 0 = r0.getD 0 0 ∧ r0.getD (n + 1) 0 = r0.getD 0 0) (hne : r0.getD 0 0 ≠ r1.getD 0 0)
    (ho : ∃ (i : Nat) (y : Int), o = withSum r0 ∨ o = (withSum r0).set i y) (hr : unsummed (torn (withSum r1) o) = (r, true)) : (rowSlotM r).2 = false ∧ (rowHeadM r).2 = false := by
 have w0 := withSum_lenR k0 (by omega)
 have w1 := withSum_lenR k1 (by omega)
 obtain ⟨i, y, ho⟩ := ho
 have hol : o.length = n + 3 := by rcases ho with rfl | rfl <;> simp [w0, l0]
 have hget : ∀ j, j < n + 2 → j ≠ i → o.getD j 0 = r0.getD j 0 := fun j hj hji => by
  have e1 : (withSum r0).getD j 0 = r0.getD j 0 := by
   rw [withSum_yes k0 (by omega), List.getD_eq_getElem?_getD, List.getElem?_append_left (by omega), ← List.getD_eq_getElem?_getD]
  rcases ho with rfl | rfl
  · exact e1
  · rw [List.getD_eq_getElem?_getD, List.getElem?_set_ne (by omega), ← List.getD_eq_getElem?_getD, e1]
 obtain ⟨hr1, _⟩ := unsummed_is hr
 have hh : (withSum r1).length / 2 = (n + 3) / 2 := by rw [w1, l1]
 have htl : (torn (withSum r1) o).length = n + 3 := by
  unfold torn
  rw [List.length_append, List.length_take, List.length_drop, w1, l1, hol]
  omega
 have hrl : r.length = n + 2 := by rw [hr1, List.length_take, htl]; omega
 have g0 : r.getD 0 0 = r1.getD 0 0 := by
  rw [hr1, List.getD_eq_getElem?_getD, List.getElem?_take, if_pos (by omega)]
  unfold torn
  rw [List.getElem?_append_left (by rw [List.length_take, w1, l1]; omega), List.getElem?_take, if_pos (by rw [w1, l1]; omega), withSum_yes k1 (by omega), List.getElem?_append_left (by omega), ← List.getD_eq_getElem?_getD]
 have gj : ∀ j, (n + 3) / 2 ≤ j → j < n + 2 → r.getD j 0 = o.getD j 0 := fun j h1 h2 => by
  rw [hr1, List.getD_eq_getElem?_getD, List.getElem?_take, if_pos (by omega)]
  unfold torn
  have hl : ((withSum r1).take ((withSum r1).length / 2)).length = (n + 3) / 2 := by rw [List.length_take, w1, l1]; omega
  rw [List.getElem?_append_right (by omega), hl, hh, List.getElem?_drop, show (n + 3) / 2 + (j - (n + 3) / 2) = j by omega, ← List.getD_eq_getElem?_getD]
 have hno : twice r n = false := by
  apply twice_no
  rintro ⟨_, q1, q2⟩
  rw [gj n (by omega) (by omega), g0] at q1
  rw [gj (n + 1) (by omega) (by omega), g0] at q2
  by_cases e : i = n
  · rw [hget (n + 1) (by omega) (by omega), t0.2] at q2
    exact hne q2
  · rw [hget n (by omega) (by omega), t0.1] at q1
    exact hne q1
 rcases hn with rfl | rfl
 · refine ⟨?_, by rw [rowHead_len (by omega)]⟩
   unfold rowSlotM
   rw [if_neg (by rw [hno]; decide)]
 · refine ⟨by rw [rowSlot_len (by omega)], ?_⟩
   unfold rowHeadM
   rw [if_neg (by rw [hno]; decide)]
theorem headRow_at {h : HeadM} (ho : headOkB h = true) : (headRowM h).getD 0 0 = h.num ∧ (headRowM h).getD 11 0 = h.num ∧ (headRowM h).getD 12 0 = h.num := by
 have hl := markNs_len h.seen 4
 refine ⟨by rw [headRow_yes ho]; rfl, ?_, ?_⟩
 · rw [headRow_yes ho, List.getD_eq_getElem?_getD, List.getElem?_append_right (by simp [hl])]
   simp [hl]
 · rw [headRow_yes ho, List.getD_eq_getElem?_getD, List.getElem?_append_right (by simp [hl])]
   simp [hl]
theorem fallen_okT {d : DiskM} (h : diskOk d = true) (fs : List Int) : diskOk (fallen d fs) = true := by
 unfold fallen
 rw [if_pos h]
 exact fall_ok h false fs
end Go.Proofs.Ytmjifhjhialcbaa
