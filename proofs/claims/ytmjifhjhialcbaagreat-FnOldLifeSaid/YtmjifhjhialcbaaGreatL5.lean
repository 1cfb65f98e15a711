/- Parts of my texts: RecA RecB. -/
import Derived.Test.YtmjifhjhialcbaaGreatL4
namespace Go.Proofs.YtmjifhjhialcbaaGreat
set_option maxRecDepth 100000
set_option linter.unusedVariables false
open Go.RowKit
def rights (ca cb : List Int) : List (List Int) :=
 (if (unsummed ca).2 = true then [(unsummed ca).1] else []) ++ (if (unsummed cb).2 = true ∧ ¬ ((unsummed ca).2 = true ∧ (unsummed ca).1 = (unsummed cb).1) then [(unsummed cb).1] else [])
theorem rights_mem {ca cb r : List Int} (h : r ∈ rights ca cb) : unsummed ca = (r, true) ∨ unsummed cb = (r, true) := by
 unfold rights at h
 rcases List.mem_append.1 h with h | h
 · split at h
   next h1 =>
    left
    have : r = (unsummed ca).1 := by simpa using h
    rw [this, ← h1]
   next => cases h
 · split at h
   next h1 =>
    right
    have : r = (unsummed cb).1 := by simpa using h
    rw [this, ← h1.1]
   next => cases h
theorem rights_a {ca cb r : List Int} (h : unsummed ca = (r, true)) : r ∈ rights ca cb := by
 unfold rights
 rw [h]
 simp
theorem rights_one {r : List Int} (h : rowOk r = true) (hl : r.length < 48) : rights (withSum r) (withSum r) = [r] := by
 unfold rights
 rw [uns_with h hl]
 simp
theorem sumStep_ne3 {s x y : Int} (h0 : x ≠ y) (h1 : x - y ≤ 1000000) (h2 : y - x ≤ 1000000) : sumStep s x ≠ sumStep s y := by
 unfold sumStep
 omega
theorem sumTo_set_ne3 {xs : List Int} {i : Nat} (hi : i < xs.length) {y : Int} (h0 : xs[i] ≠ y) (h1 : xs[i] - y ≤ 1000000) (h2 : y - xs[i] ≤ 1000000) :
    sumTo (xs.set i y) (xs.set i y).length ≠ sumTo xs xs.length := by
 intro h
 have e1 : xs = xs.take i ++ xs[i] :: xs.drop (i + 1) := by rw [← List.drop_eq_getElem_cons hi, List.take_append_drop]
 have e2 : xs.set i y = xs.take i ++ y :: xs.drop (i + 1) := by rw [List.set_eq_take_append_cons_drop, if_pos hi]
 unfold sumTo at h
 rw [List.take_length, List.take_length, e2] at h
 rw [show xs.foldl sumStep 7 = (xs.take i ++ xs[i] :: xs.drop (i + 1)).foldl sumStep 7 from congrArg (fun l => l.foldl sumStep 7) e1] at h
 rw [List.foldl_append, List.foldl_append, List.foldl_cons, List.foldl_cons] at h
 have a := sumStep_bd ((xs.take i).foldl sumStep 7) y
 have b := sumStep_bd ((xs.take i).foldl sumStep 7) xs[i]
 exact sumStep_ne3 h0 h1 h2 (fold_inj _ a.1 a.2 b.1 b.2 h).symm
theorem uns_bent3 {xs : List Int} (h : rowOk xs = true) (hl : xs.length < 48) {i : Nat} (hi : i < xs.length) {y : Int} (h0 : xs[i] ≠ y) (h1 : xs[i] - y ≤ 1000000) (h2 : y - xs[i] ≤ 1000000) : (unsummed ((withSum xs).set i y)).2 = false := by
 rw [withSum_yes h hl]
 cases hr : rowOk ((xs ++ [sumOf xs]).set i y)
 · rw [unsummed_no hr]
 · have hlen : ((xs ++ [sumOf xs]).set i y).length = xs.length + 1 := by simp
   rw [unsummed_bad (m := xs.length) hlen]
   rw [List.set_append_left _ _ hi] at hr ⊢
   rw [List.take_left' (by simp)]
   have hg : (xs.set i y ++ [sumOf xs]).getD xs.length 0 = sumOf xs := by simp [List.getD]
   rw [hg]
   have hr2 : rowOk (xs.set i y) = true := by
    rw [rowOk_iffS] at hr ⊢
    exact ⟨by simp; omega, fun x hx => hr.2 x (List.mem_append_left _ hx)⟩
   simp only [sumOf, h, hr2, if_true]
   exact sumTo_set_ne3 hi h0 h1 h2
theorem withSum_ok {r : List Int} (h : rowOk r = true) (hl : r.length < 48) : rowOk (withSum r) = true := by
 have hb := sumOf_bd h
 rw [withSum_yes h hl]
 exact rowOk_snoc h hl hb.1 hb.2
theorem withSum_lenR {r : List Int} (h : rowOk r = true) (hl : r.length < 48) : (withSum r).length = r.length + 1 := by
 rw [withSum_yes h hl, List.length_append, List.length_singleton]
theorem keptB_sync2 {t : TwoM} (h : keptB t = true) : keptB (bothSynced t) = true := by
 obtain ⟨h1, h2⟩ := (keptB_iff t).1 h
 refine (keptB_iff _).2 ⟨bothSynced_ok h1, ?_⟩
 unfold bothSynced
 rw [if_pos h1]
 show (synced t.a).kept.length = 22
 rw [synced_lenT (twoOk_iff.1 h1).1, h2]
theorem safe_mk {ks : List (List Int)} (h : diskOk ⟨ks, []⟩ = true) : safeIn ⟨ks, []⟩ = true := by
 unfold safeIn
 rw [h]
 rfl
theorem has_at {d : DiskM} {I : Nat} (hI : I < d.kept.length) : hasS d (I : Int) = true := by
 unfold hasS
 rw [Bool.and_eq_true, decide_eq_true_eq, decide_eq_true_eq]
 omega
theorem read_safe {ks : List (List Int)} (h : diskOk ⟨ks, []⟩ = true) {I : Nat} (hI : I < ks.length) : readAt ⟨ks, []⟩ (I : Int) = (ks.getD I [], true) := by
 unfold readAt
 rw [if_pos ⟨h, has_at hI⟩]
 rfl
theorem rightAt_safe {ka kb : List (List Int)} (h : twoOk ⟨⟨ka, []⟩, ⟨kb, []⟩⟩ = true) {I : Nat} (hI : I < ka.length) : rightAt ⟨⟨ka, []⟩, ⟨kb, []⟩⟩ (I : Int) = rights (ka.getD I []) (kb.getD I []) := by
 obtain ⟨h1, h2, h3⟩ := twoOk_iff.1 h
 have h3 : ka.length = kb.length := h3
 unfold rightAt rights rightOf
 rw [if_pos ⟨h, has_at hI⟩, read_safe h1 hI, read_safe h2 (by omega)]
theorem ok_set {ks : List (List Int)} (h : diskOk ⟨ks, []⟩ = true) {I : Nat} {r : List Int} (hr : rowOk r = true) : diskOk ⟨ks.set I r, []⟩ = true := by
 obtain ⟨h1, h2, h3, h4⟩ := diskOk_iff.1 h
 refine diskOk_iff.2 ⟨by simpa using h1, h2, ?_, by rfl⟩
 exact List.all_eq_true.2 (mem_set_ok (List.all_eq_true.1 h3) hr)
theorem wrote_safe {ks : List (List Int)} (h : diskOk ⟨ks, []⟩ = true) {I : Nat} (hI : I < ks.length) {r : List Int} (hr : rowOk r = true) : wrote ⟨ks, []⟩ (I : Int) r = (⟨ks, [((I : Int), r)]⟩, true) := by
 unfold wrote
 rw [if_pos h, if_pos ⟨has_at hI, hr, (by decide : (0 : Nat) < 60)⟩]
 rfl
theorem ok_one {ks : List (List Int)} (h : diskOk ⟨ks, []⟩ = true) {I : Nat} (hI : I < ks.length) {r : List Int} (hr : rowOk r = true) : diskOk ⟨ks, [((I : Int), r)]⟩ = true := by
 obtain ⟨h1, h2, h3, h4⟩ := diskOk_iff.1 h
 refine diskOk_iff.2 ⟨h1, by simp, h3, ?_⟩
 have : hasS (⟨ks, [((I : Int), r)]⟩ : DiskM) (I : Int) = true := has_at hI
 simp [wrOk, this, hr]
theorem synced_one {ks : List (List Int)} (h : diskOk ⟨ks, []⟩ = true) {I : Nat} (hI : I < ks.length) {r : List Int} (hr : rowOk r = true) : synced ⟨ks, [((I : Int), r)]⟩ = ⟨ks.set I r, []⟩ := by
 unfold synced
 rw [if_pos (ok_one h hI hr)]
 unfold fall
 show (⟨fellTo true [] ks [((I : Int), r)] 1, []⟩ : DiskM) = _
 simp [fellTo, fell]
theorem synced_safe {ks : List (List Int)} (h : diskOk ⟨ks, []⟩ = true) : synced ⟨ks, []⟩ = ⟨ks, []⟩ := by
 unfold synced
 rw [if_pos h]
 rfl
theorem fallen_safe {ks : List (List Int)} (h : diskOk ⟨ks, []⟩ = true) (fs : List Int) : fallen ⟨ks, []⟩ fs = ⟨ks, []⟩ := by
 unfold fallen
 rw [if_pos h]
 rfl
theorem mended_two {ka kb : List (List Int)} (h : twoOk ⟨⟨ka, []⟩, ⟨kb, []⟩⟩ = true) {I : Nat} (hI : I < ka.length) {r : List Int} (hr : rowOk r = true) (hl : r.length < 48) :
    mendedAt ⟨⟨ka, []⟩, ⟨kb, []⟩⟩ (I : Int) r = ⟨⟨ka.set I (withSum r), []⟩, ⟨kb.set I (withSum r), []⟩⟩ := by
 obtain ⟨h1, h2, h3⟩ := twoOk_iff.1 h
 have h3 : ka.length = kb.length := h3
 have hw := withSum_ok hr hl
 have hb : bothWrote ⟨⟨ka, []⟩, ⟨kb, []⟩⟩ (I : Int) r = (⟨⟨ka, [((I : Int), withSum r)]⟩, ⟨kb, [((I : Int), withSum r)]⟩⟩, true) := by
  unfold bothWrote
  rw [if_pos h]
  show (if (withSum r).length ≠ 0 ∧ (wrote ⟨ka, []⟩ (I : Int) (withSum r)).2 = true ∧ (wrote ⟨kb, []⟩ (I : Int) (withSum r)).2 = true then _ else _) = _
  rw [wrote_safe h1 hI hw, wrote_safe h2 (by omega) hw, if_pos ⟨by rw [withSum_lenR hr hl]; omega, rfl, rfl⟩]
 unfold mendedAt
 rw [hb, if_pos rfl]
 unfold bothSynced
 rw [if_pos (twoOk_iff.2 ⟨ok_one h1 hI hw, ok_one h2 (by omega) hw, h3⟩)]
 show (⟨synced ⟨ka, [((I : Int), withSum r)]⟩, synced ⟨kb, [((I : Int), withSum r)]⟩⟩ : TwoM) = _
 rw [synced_one h1 hI hw, synced_one h2 (by omega) hw]
theorem two_set {ka kb : List (List Int)} (h : twoOk ⟨⟨ka, []⟩, ⟨kb, []⟩⟩ = true) {I : Nat} {r : List Int} (hr : rowOk r = true) : twoOk ⟨⟨ka.set I r, []⟩, ⟨kb.set I r, []⟩⟩ = true := by
 obtain ⟨h1, h2, h3⟩ := twoOk_iff.1 h
 exact twoOk_iff.2 ⟨ok_set h1 hr, ok_set h2 hr, by simpa using h3⟩
theorem set_mid {α : Type} (f : α → List Int) {rows : List α} {ks : List (List Int)} {k : Nat} (hk : k < rows.length) (hk2 : k < ks.length) : ((rows.take k).map f ++ ks.drop k).set k (f rows[k]) = (rows.take (k + 1)).map f ++ ks.drop (k + 1) := by
 have h1 : ((rows.take k).map f).length = k := by rw [List.length_map, List.length_take]; omega
 rw [List.set_append_right _ _ (by omega), h1, Nat.sub_self, List.take_succ_eq_append_getElem hk, List.map_append, List.append_assoc]
 congr 1
 rw [List.drop_eq_getElem_cons hk2]
 rfl
theorem mendTo_rows {ka kb rows : List (List Int)} (h : twoOk ⟨⟨ka, []⟩, ⟨kb, []⟩⟩ = true) (hl : rows.length = ka.length) (hr : ∀ r ∈ rows, rowOk r = true ∧ r.length < 48) : ∀ k, k ≤ rows.length →
    mendTo ⟨⟨ka, []⟩, ⟨kb, []⟩⟩ rows k = ⟨⟨(rows.take k).map withSum ++ ka.drop k, []⟩, ⟨(rows.take k).map withSum ++ kb.drop k, []⟩⟩ ∧ twoOk (mendTo ⟨⟨ka, []⟩, ⟨kb, []⟩⟩ rows k) = true := by
 have h3 : ka.length = kb.length := (twoOk_iff.1 h).2.2
 intro k
 induction k with
 | zero => intro _; exact ⟨by simp [mendTo], h⟩
 | succ k ih =>
  intro hk
  obtain ⟨h1, h2⟩ := ih (by omega)
  have hkl : k < rows.length := by omega
  have hg : rows.getD k [] = rows[k] := by simp [List.getD, List.getElem?_eq_getElem hkl]
  obtain ⟨r1, r2⟩ := hr rows[k] (List.getElem_mem hkl)
  have hm : mendTo ⟨⟨ka, []⟩, ⟨kb, []⟩⟩ rows (k + 1) = mendedAt (mendTo ⟨⟨ka, []⟩, ⟨kb, []⟩⟩ rows k) (k : Int) rows[k] := by rw [← hg]; rfl
  rw [h1] at h2
  have hlen : ((rows.take k).map withSum ++ ka.drop k).length = ka.length := by rw [List.length_append, List.length_map, List.length_take, List.length_drop]; omega
  rw [hm, h1, mended_two h2 (by rw [hlen]; omega) r1 r2]
  have e1 := set_mid withSum (ks := ka) hkl (by omega)
  have e2 := set_mid withSum (ks := kb) hkl (by omega)
  have h4 := two_set h2 (I := k) (withSum_ok r1 r2)
  rw [e1, e2] at h4 ⊢
  exact ⟨rfl, h4⟩
def onBoth (rows : List (List Int)) : TwoM := ⟨⟨rows.map withSum, []⟩, ⟨rows.map withSum, []⟩⟩
theorem mend_all {ka kb rows : List (List Int)} (h : twoOk ⟨⟨ka, []⟩, ⟨kb, []⟩⟩ = true) (hl : rows.length = ka.length) (hr : ∀ r ∈ rows, rowOk r = true ∧ r.length < 48) :
    mendTo ⟨⟨ka, []⟩, ⟨kb, []⟩⟩ rows rows.length = onBoth rows ∧ twoOk (onBoth rows) = true := by
 have h3 : ka.length = kb.length := (twoOk_iff.1 h).2.2
 obtain ⟨h1, h2⟩ := mendTo_rows h hl hr rows.length (Nat.le_refl _)
 have e : mendTo ⟨⟨ka, []⟩, ⟨kb, []⟩⟩ rows rows.length = onBoth rows := by
  rw [h1]
  unfold onBoth
  rw [List.take_length, List.drop_of_length_le (by omega), List.drop_of_length_le (by omega), List.append_nil]
 exact ⟨e, by rw [← e]; exact h2⟩
theorem onBoth_right {rows : List (List Int)} (h : twoOk (onBoth rows) = true) (hr : ∀ r ∈ rows, rowOk r = true ∧ r.length < 48) {I : Nat} (hI : I < rows.length) : rightAt (onBoth rows) (I : Int) = [rows[I]] := by
 unfold onBoth at h ⊢
 rw [rightAt_safe h (by rw [List.length_map]; exact hI)]
 have : (rows.map withSum).getD I [] = withSum rows[I] := by simp [List.getD, List.getElem?_eq_getElem hI]
 rw [this]
 obtain ⟨r1, r2⟩ := hr rows[I] (List.getElem_mem hI)
 exact rights_one r1 r2
theorem onBoth_fallen {rows : List (List Int)} (h : twoOk (onBoth rows) = true) (fs : List Int) : bothFallen (onBoth rows) fs = onBoth rows := by
 unfold bothFallen
 rw [if_pos h]
 obtain ⟨h1, h2, _⟩ := twoOk_iff.1 h
 unfold onBoth at *
 show (⟨fallen ⟨rows.map withSum, []⟩ (second fs 0), fallen ⟨rows.map withSum, []⟩ (second fs 1)⟩ : TwoM) = _
 rw [fallen_safe h1, fallen_safe h1]
theorem onBoth_synced {rows : List (List Int)} (h : twoOk (onBoth rows) = true) : bothSynced (onBoth rows) = onBoth rows := by
 unfold bothSynced
 rw [if_pos h]
 obtain ⟨h1, h2, _⟩ := twoOk_iff.1 h
 unfold onBoth at *
 show (⟨synced ⟨rows.map withSum, []⟩, synced ⟨rows.map withSum, []⟩⟩ : TwoM) = _
 rw [synced_safe h1]
theorem onBoth_equal {rows : List (List Int)} (h : twoOk (onBoth rows) = true) : equalIn (onBoth rows) = true := by
 obtain ⟨h1, h2, _⟩ := twoOk_iff.1 h
 have e1 : safeIn (onBoth rows).a = true := safe_mk h1
 have e2 : safeIn (onBoth rows).b = true := safe_mk h2
 unfold equalIn
 rw [h, e1, e2]
 unfold onBoth
 simp
theorem op_bd {o : OpM} (h : opB o = true) : (0 ≤ o.kind ∧ o.kind ≤ 5) ∧ (0 ≤ o.a ∧ o.a ≤ 1000) ∧ (0 ≤ o.b ∧ o.b ≤ 1000000) ∧ (0 ≤ o.c ∧ o.c ≤ 9) ∧ (0 ≤ o.d ∧ o.d ≤ 999) := by
 unfold opB at h
 split at h
 next => simp only [Bool.and_eq_true, inB_iff, decide_eq_true_eq] at h; omega
 next =>
  split at h
  next => simp only [Bool.and_eq_true, inB_iff, decide_eq_true_eq] at h; omega
  next =>
   split at h
   next => simp only [Bool.and_eq_true, inB_iff] at h; omega
   next =>
    split at h
    next => simp only [Bool.and_eq_true, inB_iff, decide_eq_true_eq] at h; omega
    next =>
     split at h
     next => simp only [Bool.and_eq_true, inB_iff, decide_eq_true_eq] at h; omega
     next => cases h
theorem rowOk_mk {r : List Int} (hl : r.length ≤ 48) (h : ∀ x ∈ r, 0 ≤ x ∧ x ≤ 1000000) : rowOk r = true := rowOk_iffS.2 ⟨hl, fun x hx => by have := h x hx; omega⟩
theorem ent_bd {e : EntM} (h : entB e = true) : ∀ x ∈ entNs e ++ [e.idx, e.idx], 0 ≤ x ∧ x ≤ 1000000 := by
 obtain ⟨h1, h2, h3, h4, h5⟩ := (entB_iff e).1 h
 obtain ⟨o1, o2, o3, o4, o5⟩ := op_bd h5
 have q1 : e.op.kind = e.kd := rfl
 have q2 : e.op.a = e.oa := rfl
 have q3 : e.op.b = e.ob := rfl
 have q4 : e.op.c = e.oc := rfl
 have q5 : e.op.d = e.od := rfl
 rw [q1] at o1; rw [q2] at o2; rw [q3] at o3; rw [q4] at o4; rw [q5] at o5
 intro x hx
 simp only [entNs, List.cons_append, List.nil_append, List.mem_cons, List.not_mem_nil, or_false] at hx
 rcases hx with rfl | rfl | rfl | rfl | rfl | rfl | rfl | rfl | rfl | rfl | rfl <;> omega
theorem slotRow_yes {e : EntM} (h : entB e = true) : slotRowM e = entNs e ++ [e.idx, e.idx] := by unfold slotRowM; rw [if_pos h]
theorem slotRow_ok {e : EntM} (h : entB e = true) : rowOk (slotRowM e) = true ∧ (slotRowM e).length = 11 := by
 rw [slotRow_yes h]
 exact ⟨rowOk_mk (by simp [entNs]) (ent_bd h), by simp [entNs]⟩
theorem ofEnt_ns (e : EntM) : ofEnt (entNs e) = e := rfl
theorem slot_back {e : EntM} (h : entB e = true) : rowSlotM (slotRowM e) = (e, true) := by
 rw [slotRow_yes h]
 unfold rowSlotM
 rw [if_pos ((twice_iff _ _).2 ⟨by simp [entNs], by simp [entNs], by simp [entNs]⟩)]
 have : (entNs e ++ [e.idx, e.idx]).take 9 = entNs e := by simp [entNs]
 rw [this]
 unfold rowEntM
 rw [if_pos (by simp [entNs]), ofEnt_ns, if_pos h]
theorem rowSlot_len {r : List Int} (h : r.length ≠ 11) : rowSlotM r = (ent0, false) := by
 unfold rowSlotM
 rw [if_neg (by rw [twice_no (fun h9 => h (by have := h9.1; omega))]; decide)]
theorem rowHead_len {r : List Int} (h : r.length ≠ 13) : rowHeadM r = (headZ, false) := by
 unfold rowHeadM
 rw [if_neg (by rw [twice_no (fun h9 => h (by have := h9.1; omega))]; decide)]
theorem rowSlot_is {r : List Int} {e : EntM} (h : rowSlotM r = (e, true)) : r = slotRowM e ∧ entB e = true := by
 unfold rowSlotM at h
 split at h
 next ht =>
  obtain ⟨t1, t2, t3⟩ := (twice_iff _ _).1 ht
  unfold rowEntM at h
  split at h
  next =>
   split at h
   next hb =>
    have he : ofEnt (r.take 9) = e := congrArg Prod.fst h
    subst he
    refine ⟨?_, hb⟩
    rw [slotRow_yes hb]
    match r, t1 with
    | [a0, a1, a2, a3, a4, a5, a6, a7, a8, a9, a10], _ =>
     have e1 : a9 = a0 := t2
     have e2 : a10 = a0 := t3
     subst e1 e2
     rfl
   next => cases congrArg Prod.snd h
  next => cases congrArg Prod.snd h
 next => cases congrArg Prod.snd h
theorem findM_bd {l : List MarkM} (h : seenB l = true) (c : Int) : (0 ≤ (findM l c).ms ∧ (findM l c).ms ≤ 2000) ∧ (0 ≤ (findM l c).mi ∧ (findM l c).mi ≤ 2000) := by
 unfold findM
 cases hf : l.find? fun x => x.mc == c with
 | none => exact ⟨by decide, by decide⟩
 | some m =>
  have := (markB_iff m).1 ((seen_pairs h).1 m (List.mem_of_find?_eq_some hf))
  show (0 ≤ m.ms ∧ m.ms ≤ 2000) ∧ (0 ≤ m.mi ∧ m.mi ≤ 2000)
  omega
theorem markOf_find {l : List MarkM} (h : seenB l = true) (c : Int) : markOf l c = findM l c := by unfold markOf; rw [if_pos h]
theorem markNs_bd {l : List MarkM} (h : seenB l = true) : ∀ k, ∀ x ∈ markNs l k, 0 ≤ x ∧ x ≤ 2000
 | 0, x, hx => by cases hx
 | k + 1, x, hx => by
  rcases List.mem_append.1 (show x ∈ markNs l k ++ _ from hx) with hx | hx
  · exact markNs_bd h k x hx
  · have := findM_bd h (2 + (k : Int))
    rw [markOf_find h] at hx
    simp only [List.mem_cons, List.not_mem_nil, or_false] at hx
    rcases hx with rfl | rfl <;> omega
theorem headRow_yes {h : HeadM} (ho : headOkB h = true) : headRowM h = ([h.num, h.base, h.tm] ++ markNs h.seen 4) ++ [h.num, h.num] := by unfold headRowM; rw [if_pos ho]
theorem headRow_ok {h : HeadM} (ho : headOkB h = true) : rowOk (headRowM h) = true ∧ (headRowM h).length = 13 := by
 obtain ⟨h1, h2, h3, _, h5, _⟩ := (headOkB_iff h).1 ho
 rw [headRow_yes ho]
 refine ⟨rowOk_mk (by simp [markNs_len]) fun x hx => ?_, by simp [markNs_len]⟩
 simp only [List.mem_append, List.mem_cons, List.not_mem_nil, or_false] at hx
 rcases hx with ((rfl | rfl | rfl) | hx) | (rfl | rfl)
 · omega
 · omega
 · omega
 · have := markNs_bd h5 4 x hx; omega
 · omega
 · omega
theorem markNs_at (l : List MarkM) : ∀ k j, j < k → (markNs l k).getD (2 * j) 0 = (markOf l (2 + (j : Int))).ms ∧ (markNs l k).getD (2 * j + 1) 0 = (markOf l (2 + (j : Int))).mi
 | 0, j, h => absurd h (by omega)
 | k + 1, j, h => by
  have hl := markNs_len l k
  show ((markNs l k ++ _).getD (2 * j) 0 = _) ∧ ((markNs l k ++ _).getD (2 * j + 1) 0 = _)
  by_cases hj : j < k
  · have ih := markNs_at l k j hj
    rw [List.getD_eq_getElem?_getD, List.getD_eq_getElem?_getD, List.getElem?_append_left (by omega), List.getElem?_append_left (by omega), ← List.getD_eq_getElem?_getD, ← List.getD_eq_getElem?_getD]
    exact ih
  · obtain rfl : j = k := by omega
    rw [List.getD_eq_getElem?_getD, List.getD_eq_getElem?_getD, List.getElem?_append_right (by omega), List.getElem?_append_right (by omega), hl, Nat.sub_self, show 2 * j + 1 - 2 * j = 1 by omega]
    exact ⟨rfl, rfl⟩
theorem headRow_mark {h : HeadM} (ho : headOkB h = true) {k : Nat} (hk : k < 4) : markIn (headRowM h) k = ⟨2 + (k : Int), (findM h.seen (2 + (k : Int))).ms, (findM h.seen (2 + (k : Int))).mi⟩ := by
 have h5 := ((headOkB_iff h).1 ho).2.2.2.2.1
 have h6 := markNs_at h.seen 4 k hk
 have hl := markNs_len h.seen 4
 rw [headRow_yes ho]
 unfold markIn
 have e : ∀ q, q < 8 → (([h.num, h.base, h.tm] ++ markNs h.seen 4) ++ [h.num, h.num]).getD (q + 3) 0 = (markNs h.seen 4).getD q 0 := fun q hq => by
  rw [List.getD_eq_getElem?_getD, List.getD_eq_getElem?_getD, List.append_assoc, List.getElem?_append_right (by simp), List.getElem?_append_left (by simp; omega)]
  simp
 rw [e (2 * k) (by omega), show 2 * k + 4 = (2 * k + 1) + 3 by omega, e (2 * k + 1) (by omega), h6.1, h6.2, markOf_find h5]
theorem marks_front {l : List MarkM} (h : seenB l = true) (k : Nat) : (l.filter fun m => decide (m.mc < 2 + ((k + 1 : Nat) : Int))) = (l.filter fun m => decide (m.mc < 2 + (k : Int))) ++ (l.filter fun m => decide (m.mc = 2 + (k : Int))) := by
 have hp := (seen_pairs h).2.1
 clear h
 induction l with
 | nil => rfl
 | cons a t ih =>
  obtain ⟨h1, h2⟩ := List.pairwise_cons.1 hp
  have h3 := ih h2
  have P : ∀ (p : MarkM → Bool), p a = true → (a :: t).filter p = a :: t.filter p := fun p hp => List.filter_cons_of_pos hp
  have N : ∀ (p : MarkM → Bool), ¬ p a = true → (a :: t).filter p = t.filter p := fun p hp => List.filter_cons_of_neg hp
  by_cases e1 : a.mc < 2 + (k : Int)
  · rw [P (fun m => decide (m.mc < 2 + ((k + 1 : Nat) : Int))) (by simp; omega), P (fun m => decide (m.mc < 2 + (k : Int))) (by simpa using e1), N (fun m => decide (m.mc = 2 + (k : Int))) (by simp; omega), h3]
    rfl
  · by_cases e2 : a.mc = 2 + (k : Int)
    · have h4 : (t.filter fun m => decide (m.mc < 2 + (k : Int))) = [] := List.filter_eq_nil_iff.2 fun m hm => by have := h1 m hm; simp; omega
      rw [P (fun m => decide (m.mc < 2 + ((k + 1 : Nat) : Int))) (by simp; omega), N (fun m => decide (m.mc < 2 + (k : Int))) (by simpa using e1), P (fun m => decide (m.mc = 2 + (k : Int))) (by simpa using e2), h3, h4]
      rfl
    · rw [N (fun m => decide (m.mc < 2 + ((k + 1 : Nat) : Int))) (by simp; omega), N (fun m => decide (m.mc < 2 + (k : Int))) (by simpa using e1), N (fun m => decide (m.mc = 2 + (k : Int))) (by simpa using e2), h3]
theorem filter_solo {l : List MarkM} (h : seenB l = true) (c : Int) : (l.filter fun m => decide (m.mc = c)) = if (findM l c).ms ≠ 0 ∨ (findM l c).mi ≠ 0 then [⟨c, (findM l c).ms, (findM l c).mi⟩] else [] := by
 have hp := (seen_pairs h).2.1
 have hb := (seen_pairs h).1
 clear h
 unfold findM
 induction l with
 | nil => rfl
 | cons a t ih =>
  obtain ⟨h1, h2⟩ := List.pairwise_cons.1 hp
  by_cases e : a.mc = c
  · have h4 : (t.filter fun m => decide (m.mc = c)) = [] := List.filter_eq_nil_iff.2 fun m hm => by have := h1 m hm; simp; omega
    have h5 := (markB_iff a).1 (hb a (by simp))
    rw [List.filter_cons, if_pos (by simpa using e), h4, List.find?_cons, show (a.mc == c) = true by simpa using e]
    show [a] = if a.ms ≠ 0 ∨ a.mi ≠ 0 then [⟨c, a.ms, a.mi⟩] else []
    rw [if_pos (Or.inl (by omega)), ← e]
  · rw [List.filter_cons, if_neg (by simpa using e), List.find?_cons, show (a.mc == c) = false by simpa using e]
    exact ih h2 fun m hm => hb m (List.mem_cons_of_mem _ hm)
theorem head_marks {h : HeadM} (ho : headOkB h = true) : ofMarks (headRowM h) 4 = h.seen := by
 have h5 := ((headOkB_iff h).1 ho).2.2.2.2.1
 have h6 : ∀ k, k ≤ 4 → ofMarks (headRowM h) k = h.seen.filter fun m => decide (m.mc < 2 + (k : Int)) := by
  intro k
  induction k with
  | zero =>
   intro _
   symm
   refine List.filter_eq_nil_iff.2 fun m hm => ?_
   have := (markB_iff m).1 ((seen_pairs h5).1 m hm)
   simp
   omega
  | succ k ih =>
   intro hk
   rw [marks_front h5, ← ih (by omega), filter_solo h5]
   show ofMarks (headRowM h) k ++ _ = _
   rw [headRow_mark ho (show k < 4 by omega)]
 rw [h6 4 (Nat.le_refl _)]
 refine List.filter_eq_self.2 fun m hm => ?_
 have := (markB_iff m).1 ((seen_pairs h5).1 m hm)
 simp
 omega
theorem head_back {h : HeadM} (ho : headOkB h = true) : rowHeadM (headRowM h) = (h, true) := by
 have hl := markNs_len h.seen 4
 have e0 : (headRowM h).getD 0 0 = h.num := by rw [headRow_yes ho]; rfl
 have e11 : (headRowM h).getD 11 0 = h.num := by
  rw [headRow_yes ho, List.getD_eq_getElem?_getD, List.getElem?_append_right (by simp [hl])]
  simp [hl]
 have e12 : (headRowM h).getD 12 0 = h.num := by
  rw [headRow_yes ho, List.getD_eq_getElem?_getD, List.getElem?_append_right (by simp [hl])]
  simp [hl]
 have e : ofHead (headRowM h) = h := by
  unfold ofHead
  rw [head_marks ho, e0, show (headRowM h).getD 1 0 = h.base by rw [headRow_yes ho]; rfl, show (headRowM h).getD 2 0 = h.tm by rw [headRow_yes ho]; rfl]
 unfold rowHeadM
 rw [if_pos ((twice_iff _ _).2 ⟨(headRow_ok ho).2, by rw [e0, e11], by rw [e0, e12]⟩), e, if_pos ho]
theorem slotOf_at {i : Int} (h : 1 ≤ i ∧ i ≤ 2000) : slotOfM i = 2 + i % 20 := by unfold slotOfM; rw [if_pos ((inB_iff _ _ _).2 h)]
theorem slot_lt {i : Int} (h : 1 ≤ i ∧ i ≤ 2000) : 2 ≤ (slotOfM i).toNat ∧ (slotOfM i).toNat < 22 ∧ ((slotOfM i).toNat : Int) = slotOfM i := by rw [slotOf_at h]; omega
theorem slot_ne {i j : Int} (hi : 1 ≤ i ∧ i ≤ 2000) (hj : 1 ≤ j ∧ j ≤ 2000) (h1 : i < j) (h2 : j < i + 20) : (slotOfM i).toNat ≠ (slotOfM j).toNat := by rw [slotOf_at hi, slotOf_at hj]; omega
def rowsTo (h : HeadM) (l : List EntM) (j : Nat) : List (List Int) := (l.take j).foldl (fun rows e => rows.set (slotOfM e.idx).toNat (slotRowM e)) ((List.replicate 22 []).set (h.num % 2).toNat (headRowM h))
theorem rowsTo_step (h : HeadM) {l : List EntM} {j : Nat} (hj : j < l.length) : rowsTo h l (j + 1) = (rowsTo h l j).set (slotOfM l[j].idx).toNat (slotRowM l[j]) := by
 unfold rowsTo
 rw [List.take_succ_eq_append_getElem hj, List.foldl_append]
 rfl
theorem rowsTo_len (h : HeadM) (l : List EntM) : ∀ j, j ≤ l.length → (rowsTo h l j).length = 22
 | 0, _ => by simp [rowsTo]
 | j + 1, hj => by rw [rowsTo_step h (show j < l.length by omega), List.length_set]; exact rowsTo_len h l j (by omega)
theorem rowsTo_all (h : HeadM) (b : BookM) : rowsTo h b.ents b.ents.length = rowsOf h b := by unfold rowsTo rowsOf; rw [List.take_length]
theorem getD_setL {k : List (List Int)} {i I : Nat} {x : List Int} (hI : I < k.length) : (k.set i x).getD I [] = if i = I then x else k.getD I [] := by
 by_cases e : i = I
 · subst e
   rw [if_pos rfl]
   simp [List.getD, hI]
 · rw [if_neg e]
   simp [List.getD, List.getElem?_set_ne e]
theorem rowsTo_other {h : HeadM} {l : List EntM} {I : Nat} (hI : I < 22) : ∀ j, j ≤ l.length → (∀ q (hq : q < l.length), q < j → (slotOfM l[q].idx).toNat ≠ I) → (rowsTo h l j).getD I [] = if (h.num % 2).toNat = I then headRowM h else []
 | 0, _, _ => by
  have : (rowsTo h l 0) = (List.replicate 22 []).set (h.num % 2).toNat (headRowM h) := rfl
  rw [this, getD_setL (by simpa using hI)]
  split
  · rfl
  · rw [List.getD_eq_getElem?_getD, List.getElem?_replicate, if_pos hI]
    rfl
 | j + 1, hj, hs => by
  have hjl : j < l.length := by omega
  rw [rowsTo_step h hjl, getD_setL (by rw [rowsTo_len h l j (by omega)]; exact hI), if_neg (hs j hjl (by omega))]
  exact rowsTo_other hI j (by omega) fun q hq hq2 => hs q hq (by omega)
theorem rowsTo_slot {h : HeadM} {l : List EntM} (hb : ∀ q (hq : q < l.length), 1 ≤ l[q].idx ∧ l[q].idx ≤ 2000) (hd : ∀ p q (hp : p < l.length) (hq : q < l.length), p < q → (slotOfM l[p].idx).toNat ≠ (slotOfM l[q].idx).toNat) {p : Nat} (hp : p < l.length) : ∀ j, p < j → j ≤ l.length → (rowsTo h l j).getD (slotOfM l[p].idx).toNat [] = slotRowM l[p]
 | 0, h0, _ => absurd h0 (by omega)
 | j + 1, h1, h2 => by
  have hjl : j < l.length := by omega
  have hs := slot_lt (hb p hp)
  rw [rowsTo_step h hjl, getD_setL (by rw [rowsTo_len h l j (by omega)]; exact hs.2.1)]
  by_cases e : p = j
  · subst e
    rw [if_pos rfl]
  · rw [if_neg (fun h9 => hd p j hp hjl (by omega) h9.symm)]
    exact rowsTo_slot hb hd hp j (by omega) (by omega)
end Go.Proofs.YtmjifhjhialcbaaGreat
