/- Parts of my texts: RecF RecG BookW BookT BookU HeadD3. -/
import Derived.Test.YtmjifhjhialcbaaGreatL10
import Derived.Laws.AppendOwn
import Derived.Laws.Append
namespace Go.Proofs.YtmjifhjhialcbaaGreat
set_option maxRecDepth 100000
set_option linter.unusedVariables false
open Go.RowKit
def zeroRows : List (List Int) := (List.replicate 22 ([] : List Int)).set 0 (withSum (headRowM headZ))
theorem replicate_ok : diskOk ⟨List.replicate 22 [], []⟩ = true := by decide
theorem newKept_twin : newKeptM = twin ⟨zeroRows, []⟩ ∧ keptB (twin ⟨zeroRows, []⟩) = true := by
 have h0 : newTwo 22 = ⟨⟨List.replicate 22 [], []⟩, ⟨List.replicate 22 [], []⟩⟩ := rfl
 have h1 : twoOk ⟨⟨List.replicate 22 [], []⟩, ⟨List.replicate 22 [], []⟩⟩ = true := twin_ok replicate_ok
 obtain ⟨r1, r2⟩ := headRow_ok headZ_ok
 have h2 := mended_two h1 (I := 0) (by simp) r1 (by omega)
 have h3 : newKeptM = twin ⟨zeroRows, []⟩ := by
  unfold newKeptM
  rw [h0]
  exact h2
 refine ⟨h3, (keptB_iff _).2 ⟨?_, by simp [twin, zeroRows]⟩⟩
 exact two_set h1 (withSum_ok r1 (by omega))
theorem row_of {r r' : List Int} (h : rowOk r = true) (hl : r.length < 48) (he : unsummed (withSum r) = (r', true)) : r' = r := by
 rw [uns_with h hl] at he
 exact (congrArg Prod.fst he).symm
theorem zero_at {I : Nat} (h1 : 1 ≤ I) (h2 : I < 22) : zeroRows.getD I [] = [] := by
 unfold zeroRows
 rw [getD_setL (by simpa using h2), if_neg (by omega), List.getD_eq_getElem?_getD, List.getElem?_replicate, if_pos h2]
 rfl
theorem zero_0 : zeroRows.getD 0 [] = withSum (headRowM headZ) := rfl
theorem rot_shape {ks : List (List Int)} (h : diskOk ⟨ks, []⟩ = true) (at_ i y : Int) : ∃ ks', (rotted ⟨ks, []⟩ at_ i y).1 = ⟨ks', []⟩ ∧ diskOk ⟨ks', []⟩ = true ∧ ks'.length = ks.length ∧ ∀ I : Nat, I < ks.length → ks'.getD I [] = ks.getD I [] ∨ (ks'.getD I [] = (ks.getD I []).set i.toNat y) := by
 unfold rotted
 rw [if_pos h]
 split
 next hc =>
  obtain ⟨h1, ⟨h2, h3⟩, h4, h5⟩ := hc
  have hs : at_.toNat < ks.length := by
   unfold hasS at h1
   rw [Bool.and_eq_true, decide_eq_true_eq, decide_eq_true_eq] at h1
   have h1 : 0 ≤ at_ ∧ at_ ≤ (ks.length : Int) - 1 := h1
   omega
  have hrow : rowOk (ks.getD at_.toNat []) = true := getD_ok (ok_rows h) _
  have hrow2 : rowOk ((ks.getD at_.toNat []).set i.toNat y) = true := by
   rw [rowOk_iffS] at hrow ⊢
   refine ⟨by rw [List.length_set]; exact hrow.1, fun x hx => ?_⟩
   rcases List.mem_or_eq_of_mem_set hx with hx | rfl
   · exact hrow.2 x hx
   · exact ⟨h4, h5⟩
  refine ⟨_, rfl, ok_set h hrow2, by simp, fun I hI => ?_⟩
  show (ks.set at_.toNat _).getD I [] = _ ∨ _
  rw [getD_setL hI]
  by_cases e : at_.toNat = I
  · subst e
    right
    exact if_pos rfl
  · left
    rw [if_neg e]
 next => exact ⟨ks, rfl, h, rfl, fun I _ => Or.inl rfl⟩
theorem cont_row {c c' r x : List Int} {i : Nat} {y : Int} (hy : 0 ≤ y ∧ y ≤ 1000) (hr : rowOk r = true) (hl : r.length < 48) (hb : ∀ x ∈ r, 0 ≤ x ∧ x ≤ 1000000) (hc : c = withSum r ∨ c.length ≤ 6) (hc' : c' = c ∨ c' = c.set i y) (hx : unsummed c' = (x, true)) : x = r ∨ ((rowSlotM x).2 = false ∧ (rowHeadM x).2 = false) := by
 rcases hc with rfl | hc
 · rcases hc' with rfl | rfl
   · exact Or.inl (row_of hr hl hx)
   · rcases bent_any hr hl hb (i := i) hy with e | e
     · rw [e] at hx
       exact Or.inl (row_of hr hl hx)
     · rw [hx] at e
       cases e
 · right
   have : c'.length ≤ 6 := by
    rcases hc' with rfl | rfl
    · exact hc
    · rw [List.length_set]; exact hc
   exact junk_slot (junk_short this) hx
theorem cont_none {c c' x : List Int} {i : Nat} {y : Int} (hc : c.length ≤ 6) (hc' : c' = c ∨ c' = c.set i y) (hx : unsummed c' = (x, true)) : (rowSlotM x).2 = false ∧ (rowHeadM x).2 = false := by
 have : c'.length ≤ 6 := by
  rcases hc' with rfl | rfl
  · exact hc
  · rw [List.length_set]; exact hc
 exact junk_slot (junk_short this) hx
theorem headZ_bd : ∀ x ∈ headRowM headZ, 0 ≤ x ∧ x ≤ 1000000 := by decide
theorem fallen_disk {k : List (List Int)} {l : List EntM} (h : diskOk ⟨k, l.map wrE⟩ = true) (fs : List Int) : fallen ⟨k, l.map wrE⟩ fs = ⟨fellTo false fs k (l.map wrE) l.length, []⟩ ∧ diskOk ⟨fellTo false fs k (l.map wrE) l.length, []⟩ = true := by
 have e : fallen ⟨k, l.map wrE⟩ fs = ⟨fellTo false fs k (l.map wrE) l.length, []⟩ := by
  unfold fallen
  rw [if_pos h]
  unfold fall
  show (⟨fellTo false fs k (l.map wrE) (l.map wrE).length, []⟩ : DiskM) = _
  rw [List.length_map]
 exact ⟨e, by rw [← e]; exact fallen_ok h fs⟩
theorem ent_rowbd {e : EntM} (h : entB e = true) : ∀ x ∈ slotRowM e, 0 ≤ x ∧ x ≤ 1000000 := by rw [slotRow_yes h]; exact ent_bd h
theorem kept_stored {l : List EntM} (hr : RunS l) (hl : l.length ≤ 20) {s : Nat} (hs : s ≤ l.length) (fs : List Int) (at_ i y : Int) (hy : 0 ≤ y ∧ y ≤ 1000) :
    ∃ ca cb, (⟨(bothFallen (keptAll newKeptM l (s : Int)) fs).a, (rotted (bothFallen (keptAll newKeptM l (s : Int)) fs).b at_ i y).1⟩ : TwoM) = ⟨⟨ca, []⟩, ⟨cb, []⟩⟩ ∧ Stored ca cb l s := by
 obtain ⟨n1, n2⟩ := newKept_twin
 have he := run_ents hr
 have hd := run_slots hr hl
 obtain ⟨k1, k2⟩ := kept_all n2 he (by omega) hs
 have hdk : diskOk ⟨setAll zeroRows (l.take s), (l.drop s).map wrE⟩ = true := (twoOk_iff.1 ((keptB_iff _).1 k2).1).1
 have hz : zeroRows.length = 22 := by simp [zeroRows]
 have hsl : ∀ q (hq : q < l.length), 2 ≤ (slotOfM l[q].idx).toNat ∧ (slotOfM l[q].idx).toNat < 22 := fun q hq => by
  have := slot_lt ((entB_iff _).1 (he _ (List.getElem_mem hq))).1
  exact ⟨this.1, this.2.1⟩
 have hblank : ∀ q (hq : q < l.length), (zeroRows.getD (slotOfM l[q].idx).toNat []).length ≤ 1 := fun q hq => by
  rw [zero_at (by have := (hsl q hq).1; omega) (hsl q hq).2]
  exact Nat.zero_le _
 obtain ⟨fa1, fa2⟩ := fallen_disk hdk (second fs 0)
 obtain ⟨fb1, fb2⟩ := fallen_disk hdk (second fs 1)
 obtain ⟨a1, a2, a3⟩ := fallen_cont (second fs 0) hz he hd hs hblank
 obtain ⟨b1, b2, b3⟩ := fallen_cont (second fs 1) hz he hd hs hblank
 have hf : bothFallen (keptAll newKeptM l (s : Int)) fs = ⟨⟨fellTo false (second fs 0) (setAll zeroRows (l.take s)) ((l.drop s).map wrE) (l.drop s).length, []⟩, ⟨fellTo false (second fs 1) (setAll zeroRows (l.take s)) ((l.drop s).map wrE) (l.drop s).length, []⟩⟩ := by
  rw [n1, k1]
  unfold bothFallen
  rw [if_pos (twin_ok hdk)]
  show (⟨fallen ⟨setAll zeroRows (l.take s), (l.drop s).map wrE⟩ (second fs 0), fallen ⟨setAll zeroRows (l.take s), (l.drop s).map wrE⟩ (second fs 1)⟩ : TwoM) = _
  rw [fa1, fb1]
 rw [hf]
 have hlenA : (fellTo false (second fs 0) (setAll zeroRows (l.take s)) ((l.drop s).map wrE) (l.drop s).length).length = 22 := by rw [fellTo_len, setAll_len, hz]
 have hlenB : (fellTo false (second fs 1) (setAll zeroRows (l.take s)) ((l.drop s).map wrE) (l.drop s).length).length = 22 := by rw [fellTo_len, setAll_len, hz]
 generalize fellTo false (second fs 0) (setAll zeroRows (l.take s)) ((l.drop s).map wrE) (l.drop s).length = ca at *
 generalize fellTo false (second fs 1) (setAll zeroRows (l.take s)) ((l.drop s).map wrE) (l.drop s).length = cb at *
 clear hf fa1 fb1 k1 k2 hdk n1 n2
 obtain ⟨cb', e1, e2, e3, e4⟩ := rot_shape fb2 at_ i y
 have h0 := headRow_ok headZ_ok
 have hne0 : ∀ I : Nat, I < 2 → ∀ q (hq : q < l.length), (slotOfM l[q].idx).toNat ≠ I := fun I hI q hq => by have := (hsl q hq).1; omega
 refine ⟨ca, cb', by show (⟨⟨ca, []⟩, (rotted ⟨cb, []⟩ at_ i y).1⟩ : TwoM) = _; rw [e1], ?_, ?_, ?_, ?_, ?_, ?_⟩
 · exact (keptB_iff _).2 ⟨twoOk_iff.2 ⟨fa2, e2, by show ca.length = cb'.length; omega⟩, hlenA⟩
 · intro I hI r hr2
   have ea := a3 I (by omega) (hne0 I hI)
   have eb := b3 I (by omega) (hne0 I hI)
   have ec := e4 I (by omega)
   rw [eb] at ec
   have hz2 : zeroRows.getD I [] = withSum (headRowM headZ) ∨ (zeroRows.getD I []).length ≤ 6 := by
    rcases Nat.eq_zero_or_pos I with rfl | hp
    · exact Or.inl zero_0
    · exact Or.inr (by rw [zero_at hp (by omega)]; exact Nat.zero_le _)
   rcases rights_mem hr2 with hx | hx
   · rw [ea] at hx
     rcases cont_row (i := 0) (y := 0) (by decide) h0.1 (by omega) headZ_bd hz2 (Or.inl rfl) hx with h9 | h9
     · exact Or.inl h9
     · exact Or.inr h9.2
   · rcases cont_row hy h0.1 (by omega) headZ_bd hz2 ec hx with h9 | h9
     · exact Or.inl h9
     · exact Or.inr h9.2
 · have ea := a3 0 (by omega) (hne0 0 (by omega))
   rw [zero_0] at ea
   rw [ea]
   exact rights_a (uns_with h0.1 (by omega))
 · intro q hq r hr2
   obtain ⟨r1, r2⟩ := slotRow_ok (he _ (List.getElem_mem hq))
   have hbd := ent_rowbd (he _ (List.getElem_mem hq))
   rcases rights_mem hr2 with hx | hx
   · rcases cont_row (i := 0) (y := 0) (by decide) r1 (by omega) hbd (a2 q hq) (Or.inl rfl) hx with h9 | h9
     · exact Or.inl h9
     · exact Or.inr h9.1
   · rcases cont_row hy r1 (by omega) hbd (b2 q hq) (e4 _ (by have := (hsl q hq).2; omega)) hx with h9 | h9
     · exact Or.inl h9
     · exact Or.inr h9.1
 · intro q hq hqs
   obtain ⟨r1, r2⟩ := slotRow_ok (he _ (List.getElem_mem hq))
   rw [a1 q hq hqs]
   exact rights_a (uns_with r1 (by omega))
 · intro I h2 h22 hno r hr2
   have ea := a3 I h22 hno
   have eb := b3 I h22 hno
   have ec := e4 I (by omega)
   rw [eb] at ec
   have hzz : (zeroRows.getD I []).length ≤ 6 := by rw [zero_at (by omega) h22]; exact Nat.zero_le _
   rcases rights_mem hr2 with hx | hx
   · rw [ea] at hx
     exact (cont_none (i := 0) (y := 0) hzz (Or.inl rfl) hx).1
   · exact (cont_none hzz ec hx).1
theorem kept_recovered {l : List EntM} (hr : RunS l) (hl : l.length ≤ 20) {s : Nat} (hs : s ≤ l.length) (fs : List Int) (at_ i y : Int) (hy : 0 ≤ y ∧ y ≤ 1000) (t : TwoM) (ht : t = ⟨(bothFallen (keptAll newKeptM l (s : Int)) fs).a, (rotted (bothFallen (keptAll newKeptM l (s : Int)) fs).b at_ i y).1⟩) :
    ∃ k rows, s ≤ k ∧ k ≤ l.length ∧ recoveredM t = ⟨onBoth rows, headZ, ⟨0, 0, l.take k⟩, true⟩ ∧ twoOk (onBoth rows) = true ∧ rows = rowsOf headZ ⟨0, 0, l.take k⟩ := by
 obtain ⟨ca, cb, e, hS⟩ := kept_stored hr hl hs fs at_ i y hy
 rw [e] at ht
 subst ht
 obtain ⟨k, h1, h2, h3, h4⟩ := stored_front hS hr hl hs
 obtain ⟨rows, g1, g2, g3, _, _⟩ := rec_shape h3 h4
 exact ⟨k, rows, h1, h2, g1, g2, g3⟩
theorem rotted_none {d : DiskM} (h : diskOk d = true) (i y : Int) : (rotted d (-1) i y).1 = d := by
 unfold rotted
 rw [if_pos h, if_neg]
 rintro ⟨h1, _⟩
 unfold hasS at h1
 rw [Bool.and_eq_true, decide_eq_true_eq] at h1
 omega
theorem kept_plain {l : List EntM} (hr : RunS l) (hl : l.length ≤ 20) {s : Nat} (hs : s ≤ l.length) (fs : List Int) :
    ∃ k rows, s ≤ k ∧ k ≤ l.length ∧ recoveredM (bothFallen (keptAll newKeptM l (s : Int)) fs) = ⟨onBoth rows, headZ, ⟨0, 0, l.take k⟩, true⟩ ∧ twoOk (onBoth rows) = true ∧ rows = rowsOf headZ ⟨0, 0, l.take k⟩ := by
 refine kept_recovered hr hl hs fs (-1) 0 0 (by decide) _ ?_
 obtain ⟨n1, n2⟩ := newKept_twin
 obtain ⟨k1, k2⟩ := kept_all n2 (run_ents hr) (by omega) hs
 have hok : twoOk (bothFallen (keptAll newKeptM l (s : Int)) fs) = true := by
  rw [n1, k1]
  exact bothFallen_ok ((keptB_iff _).1 k2).1 fs
 rw [rotted_none (twoOk_iff.1 hok).2.1]
theorem nil_sum_len : (withSum []).length = 1 := by rw [withSum_lenR nil_ok (by decide)]; rfl
theorem onBoth_at {rows : List (List Int)} {I : Nat} (hI : I < rows.length) : (rows.map withSum).getD I [] = withSum (rows.getD I []) := by
 simp [List.getD, List.getElem?_eq_getElem hI]
theorem old_stored {b more : List EntM} (hr : RunS (b ++ more)) (hl : (b ++ more).length ≤ 20) {rows : List (List Int)} (hrows : rows = rowsOf headZ ⟨0, 0, b⟩) (h2 : twoOk (onBoth rows) = true) (fs : List Int) :
    ∃ ca cb, bothFallen (keptAll (onBoth rows) more 0) fs = ⟨⟨ca, []⟩, ⟨cb, []⟩⟩ ∧ Stored ca cb (b ++ more) b.length := by
 have heL := run_ents hr
 have hdL := run_slots hr hl
 have he : ∀ e ∈ more, entB e = true := fun e h => heL e (List.mem_append_right _ h)
 have hllen : (b ++ more).length = b.length + more.length := List.length_append
 have hgb : ∀ q (hq : q < b.length), (b ++ more)[q]'(by omega) = b[q] := fun q hq => List.getElem_append_left hq
 have hgm : ∀ q (hq : q < more.length), (b ++ more)[b.length + q]'(by omega) = more[q] := fun q hq => by
  rw [List.getElem_append_right (by omega)]
  congr 1
  omega
 have hd : SlotsApart more := fun p q hp hq hpq => by
  have := hdL (b.length + p) (b.length + q) (by omega) (by omega) (by omega)
  rwa [hgm p hp, hgm q hq] at this
 have hbm : ∀ p q (hp : p < b.length) (hq : q < more.length), (slotOfM b[p].idx).toNat ≠ (slotOfM more[q].idx).toNat := fun p q hp hq => by
  have := hdL p (b.length + q) (by omega) (by omega) (by omega)
  rwa [hgb p hp, hgm q hq] at this
 have hlen : rows.length = 22 := by rw [hrows]; exact rowsOf_len _ _
 have hk : keptB (twin ⟨rows.map withSum, []⟩) = true := (keptB_iff _).2 ⟨h2, by show (rows.map withSum).length = 22; rw [List.length_map, hlen]⟩
 have hsb : ∀ q (hq : q < b.length), 2 ≤ (slotOfM b[q].idx).toNat ∧ (slotOfM b[q].idx).toNat < 22 := fun q hq => by
  have := slot_lt ((entB_iff _).1 (heL _ (List.mem_append_left _ (List.getElem_mem hq)))).1
  exact ⟨this.1, this.2.1⟩
 have hsm : ∀ q (hq : q < more.length), 2 ≤ (slotOfM more[q].idx).toNat ∧ (slotOfM more[q].idx).toNat < 22 := fun q hq => by
  have := slot_lt ((entB_iff _).1 (he _ (List.getElem_mem hq))).1
  exact ⟨this.1, this.2.1⟩
 have hro : ∀ I : Nat, I < 22 → (∀ q (hq : q < b.length), (slotOfM b[q].idx).toNat ≠ I) → rows.getD I [] = if 0 = I then headRowM headZ else [] := fun I hI hno => by
  rw [hrows, ← rowsTo_all]
  exact rowsTo_other (h := headZ) hI _ (Nat.le_refl _) fun q hq _ => hno q hq
 have hrs : ∀ q (hq : q < b.length), rows.getD (slotOfM b[q].idx).toNat [] = slotRowM b[q] := fun q hq => by
  rw [hrows, ← rowsTo_all]
  refine rowsTo_slot (h := headZ) (l := b) (fun q hq => ((entB_iff _).1 (heL _ (List.mem_append_left _ (List.getElem_mem hq)))).1) (fun p q hp hq hpq => ?_) hq _ hq (Nat.le_refl _)
  have := hdL p q (by omega) (by omega) hpq
  rwa [hgb p hp, hgb q hq] at this
 have hk0 : (rows.map withSum).length = 22 := by rw [List.length_map, hlen]
 have hb1 : ∀ q (hq : q < more.length), ((rows.map withSum).getD (slotOfM more[q].idx).toNat []).length ≤ 1 := fun q hq => by
  rw [onBoth_at (by rw [hlen]; exact (hsm q hq).2), hro _ (hsm q hq).2 (fun p hp => hbm p q hp hq), if_neg (by have := (hsm q hq).1; omega), nil_sum_len]
  exact Nat.le_refl _
 obtain ⟨k1, k2⟩ := kept_all hk he (by omega) (Nat.zero_le more.length)
 have hdk : diskOk ⟨setAll (rows.map withSum) (more.take 0), (more.drop 0).map wrE⟩ = true := (twoOk_iff.1 ((keptB_iff _).1 k2).1).1
 obtain ⟨fa1, fa2⟩ := fallen_disk hdk (second fs 0)
 obtain ⟨fb1, fb2⟩ := fallen_disk hdk (second fs 1)
 obtain ⟨_, a2, a3⟩ := fallen_cont (second fs 0) hk0 he hd (Nat.zero_le more.length) hb1
 obtain ⟨_, b2, b3⟩ := fallen_cont (second fs 1) hk0 he hd (Nat.zero_le more.length) hb1
 have hf : bothFallen (keptAll (onBoth rows) more 0) fs = ⟨⟨fellTo false (second fs 0) (setAll (rows.map withSum) (more.take 0)) ((more.drop 0).map wrE) (more.drop 0).length, []⟩, ⟨fellTo false (second fs 1) (setAll (rows.map withSum) (more.take 0)) ((more.drop 0).map wrE) (more.drop 0).length, []⟩⟩ := by
  have k1 : keptAll (onBoth rows) more 0 = twin ⟨setAll (rows.map withSum) (more.take 0), (more.drop 0).map wrE⟩ := k1
  rw [k1]
  unfold bothFallen
  rw [if_pos (twin_ok hdk)]
  show (⟨fallen ⟨setAll (rows.map withSum) (more.take 0), (more.drop 0).map wrE⟩ (second fs 0), fallen ⟨setAll (rows.map withSum) (more.take 0), (more.drop 0).map wrE⟩ (second fs 1)⟩ : TwoM) = _
  rw [fa1, fb1]
 rw [hf]
 have hlenA : (fellTo false (second fs 0) (setAll (rows.map withSum) (more.take 0)) ((more.drop 0).map wrE) (more.drop 0).length).length = 22 := by rw [fellTo_len, setAll_len, hk0]
 have hlenB : (fellTo false (second fs 1) (setAll (rows.map withSum) (more.take 0)) ((more.drop 0).map wrE) (more.drop 0).length).length = 22 := by rw [fellTo_len, setAll_len, hk0]
 generalize fellTo false (second fs 0) (setAll (rows.map withSum) (more.take 0)) ((more.drop 0).map wrE) (more.drop 0).length = ca at *
 generalize fellTo false (second fs 1) (setAll (rows.map withSum) (more.take 0)) ((more.drop 0).map wrE) (more.drop 0).length = cb at *
 clear hf fa1 fb1 k1 k2 hdk
 have h0 := headRow_ok headZ_ok
 have hother : ∀ I : Nat, I < 22 → (∀ q (hq : q < (b ++ more).length), (slotOfM (b ++ more)[q].idx).toNat ≠ I) → (rows.map withSum).getD I [] = withSum (if 0 = I then headRowM headZ else []) ∧ ca.getD I [] = (rows.map withSum).getD I [] ∧ cb.getD I [] = (rows.map withSum).getD I [] := fun I hI hno => by
  have hnb : ∀ q (hq : q < b.length), (slotOfM b[q].idx).toNat ≠ I := fun q hq => by have := hno q (by omega); rwa [hgb q hq] at this
  have hnm : ∀ q (hq : q < more.length), (slotOfM more[q].idx).toNat ≠ I := fun q hq => by have := hno (b.length + q) (by omega); rwa [hgm q hq] at this
  exact ⟨by rw [onBoth_at (by rw [hlen]; exact hI), hro I hI hnb], a3 I hI hnm, b3 I hI hnm⟩
 have hlow : ∀ I : Nat, I < 2 → ∀ q (hq : q < (b ++ more).length), (slotOfM (b ++ more)[q].idx).toNat ≠ I := fun I hI q hq => by
  have := (slot_lt ((entB_iff _).1 (heL _ (List.getElem_mem hq))).1).1
  omega
 have hbs : ∀ q (hq : q < b.length), ca.getD (slotOfM b[q].idx).toNat [] = withSum (slotRowM b[q]) ∧ cb.getD (slotOfM b[q].idx).toNat [] = withSum (slotRowM b[q]) := fun q hq => by
  have e : (rows.map withSum).getD (slotOfM b[q].idx).toNat [] = withSum (slotRowM b[q]) := by rw [onBoth_at (by rw [hlen]; exact (hsb q hq).2), hrs q hq]
  exact ⟨by rw [a3 _ (hsb q hq).2 (fun p hp => (hbm q p hq hp).symm), e], by rw [b3 _ (hsb q hq).2 (fun p hp => (hbm q p hq hp).symm), e]⟩
 refine ⟨ca, cb, rfl, ?_, ?_, ?_, ?_, ?_, ?_⟩
 · exact (keptB_iff _).2 ⟨twoOk_iff.2 ⟨fa2, fb2, by show ca.length = cb.length; omega⟩, hlenA⟩
 · intro I hI r hr2
   obtain ⟨o1, o2, o3⟩ := hother I (by omega) (hlow I hI)
   rw [o2, o3, o1] at hr2
   by_cases e : 0 = I
   · rw [if_pos e] at hr2
     left
     rcases rights_mem hr2 with hx | hx
     · exact row_of h0.1 (by omega) hx
     · exact row_of h0.1 (by omega) hx
   · rw [if_neg e] at hr2
     right
     rcases rights_mem hr2 with hx | hx
     · exact (junk_slot (junk_short (by rw [nil_sum_len]; decide)) hx).2
     · exact (junk_slot (junk_short (by rw [nil_sum_len]; decide)) hx).2
 · obtain ⟨o1, o2, o3⟩ := hother 0 (by omega) (hlow 0 (by omega))
   rw [o2, o3, o1, if_pos rfl]
   exact rights_a (uns_with h0.1 (by omega))
 · intro q hq r hr2
   by_cases hqb : q < b.length
   · rw [hgb q hqb] at hr2 ⊢
     obtain ⟨s1, s2⟩ := hbs q hqb
     rw [s1, s2] at hr2
     obtain ⟨r1, r2⟩ := slotRow_ok (heL _ (List.mem_append_left _ (List.getElem_mem hqb)))
     left
     rcases rights_mem hr2 with hx | hx
     · exact row_of r1 (by omega) hx
     · exact row_of r1 (by omega) hx
   · obtain ⟨p, rfl⟩ : ∃ p, q = b.length + p := ⟨q - b.length, by omega⟩
     have hp : p < more.length := by omega
     rw [hgm p hp] at hr2 ⊢
     obtain ⟨r1, r2⟩ := slotRow_ok (he _ (List.getElem_mem hp))
     have hbd := ent_rowbd (he _ (List.getElem_mem hp))
     rcases rights_mem hr2 with hx | hx
     · rcases cont_row (i := 0) (y := 0) (by decide) r1 (by omega) hbd (a2 p hp) (Or.inl rfl) hx with h9 | h9
       · exact Or.inl h9
       · exact Or.inr h9.1
     · rcases cont_row (i := 0) (y := 0) (by decide) r1 (by omega) hbd (b2 p hp) (Or.inl rfl) hx with h9 | h9
       · exact Or.inl h9
       · exact Or.inr h9.1
 · intro q hq hqb
   rw [hgb q hqb]
   obtain ⟨s1, s2⟩ := hbs q hqb
   obtain ⟨r1, r2⟩ := slotRow_ok (heL _ (List.mem_append_left _ (List.getElem_mem hqb)))
   rw [s1]
   exact rights_a (uns_with r1 (by omega))
 · intro I h2' h22 hno r hr2
   obtain ⟨o1, o2, o3⟩ := hother I h22 hno
   rw [o2, o3, o1, if_neg (by omega)] at hr2
   rcases rights_mem hr2 with hx | hx
   · exact (junk_slot (junk_short (by rw [nil_sum_len]; decide)) hx).1
   · exact (junk_slot (junk_short (by rw [nil_sum_len]; decide)) hx).1
theorem old_recovered {b more : List EntM} (hr : RunS (b ++ more)) (hl : (b ++ more).length ≤ 20) {rows : List (List Int)} (hrows : rows = rowsOf headZ ⟨0, 0, b⟩) (h2 : twoOk (onBoth rows) = true) (fs : List Int) :
    ∃ k rows', b.length ≤ k ∧ k ≤ (b ++ more).length ∧ recoveredM (bothFallen (keptAll (onBoth rows) more 0) fs) = ⟨onBoth rows', headZ, ⟨0, 0, (b ++ more).take k⟩, true⟩ := by
 obtain ⟨ca, cb, e, hS⟩ := old_stored hr hl hrows h2 fs
 obtain ⟨k, h1, h2, h3, h4⟩ := stored_front hS hr hl (by rw [List.length_append]; omega)
 obtain ⟨rows', g1, _⟩ := rec_shape h3 h4
 exact ⟨k, rows', h1, h2, by rw [e]; exact g1⟩
set_option maxHeartbeats 6400000 in
theorem w9Same_any (A A2 : Option Addr) (n c n2 c2 B B2 : Nat) (l r : List EntM) (w : World) (h : Rd w B [entD l] [.slice A n c]) (h2 : Rd w B2 [entD r] [.slice A2 n2 c2]) (hB : B ≤ w.heap.size) (hB2 : B2 ≤ w.heap.size) (hs : entSz l ≤ 1048577) (hs2 : entSz r ≤ 1048577) :
    Calls Tryz.prog 63 #[.slice A n c, .slice A2 n2 c2] w fun e w' => e = .returned (.bool (sameEs l r)) ∧ Below w.heap.size w w' := by
 obtain ⟨_, _, _, e, hl, _, _, hel⟩ := h.ents
 injection e with e1 e2 e3
 subst e1 e2 e3
 obtain ⟨_, _, _, e, hl2, _, _, hel2⟩ := h2.ents
 injection e with e1 e2 e3
 subst e1 e2 e3
 have hn : n ≤ 1048577 := by unfold entSz at hs; omega
 have hn2 : n2 ≤ 1048577 := by unfold entSz at hs2; omega
 have HL := jd hl
 have HL2 := jd hl2
 clear h h2 hs hs2 hl hl2
 by_cases hnn : n = n2
 case neg =>
  have HD := jd (sameEs_len (l := l) (r := r) (by rw [HL.out, HL2.out]; exact hnn))
  have e1 : ((n : Int) != (n2 : Int)) = true := by simp; omega
  have e2 : ((n : Int) == (n2 : Int)) = false := by simp; omega
  clear hel hel2
  go_enter Tryz.func63, Tryz.ntmps63
  go_wp2
  go_ret
  exact ⟨ret_bool HD.out.symm, Below.refl _ _⟩
 case pos =>
  subst hnn
  have e1 : ((n : Int) != (n : Int)) = false := by simp
  go_enter Tryz.func63, Tryz.ntmps63
  go_wp2
  go_loopw [5] (fun i wr => ∃ j : Nat, j ≤ n ∧ i = .int .i64 (j : Int) ∧ (∀ q, q < j → l.getD q ent0 = r.getD q ent0) ∧ Below w.heap.size w wr) (fun i _ => n - (intOf i).toNat)
  case atStart => exact ⟨0, Nat.zero_le _, rfl, fun q hq => absurd hq (by omega), Below.refl _ _⟩
  case round =>
   obtain ⟨j, hj, rfl, hall, c0⟩ := hrel
   have HA := jd hall
   clear hall
   by_cases hlt : j < n
   case neg =>
    obtain rfl : j = n := by omega
    have HD := jd (show sameEs l r = true from (sameEs_iff l r).2 (List.ext_getElem (by rw [HL.out, HL2.out]) fun q h1 h2 => by have h9 := HA.out q (by have := HL.out; omega); rwa [egetD h1, egetD h2] at h9))
    have CC := jd c0
    clear hel hel2 c0
    go_wp2
    go_ret
    exact ⟨ret_bool HD.out.symm, CC.out⟩
   case pos =>
   have hjl : j < l.length := by have := HL.out; omega
   have hjr : j < r.length := by have := HL2.out; omega
   obtain ⟨b, off, rfl, hb, hcA⟩ := hel (by omega)
   obtain ⟨b2, off2, rfl, hb2, hcB⟩ := hel2 (by omega)
   obtain ⟨hc0, hc1, hc2, hc3, hc4, hc5, hc6, hc7, hc8⟩ := hcA j hjl
   obtain ⟨hd0, hd1, hd2, hd3, hd4, hd5, hd6, hd7, hd8⟩ := hcB j hjr
   have cs0 := (c0.cell (p := ⟨b, off + j * 9, none⟩) (show b < _ by omega)).trans hc0
   have cs1 := (c0.cell (p := ⟨b, off + j * 9 + 1, none⟩) (show b < _ by omega)).trans hc1
   have cs2 := (c0.cell (p := ⟨b, off + j * 9 + 2, none⟩) (show b < _ by omega)).trans hc2
   have cs3 := (c0.cell (p := ⟨b, off + j * 9 + 3, none⟩) (show b < _ by omega)).trans hc3
   have cs4 := (c0.cell (p := ⟨b, off + j * 9 + 4, none⟩) (show b < _ by omega)).trans hc4
   have cs5 := (c0.cell (p := ⟨b, off + j * 9 + 5, none⟩) (show b < _ by omega)).trans hc5
   have cs6 := (c0.cell (p := ⟨b, off + j * 9 + 6, none⟩) (show b < _ by omega)).trans hc6
   have cs7 := (c0.cell (p := ⟨b, off + j * 9 + 7, none⟩) (show b < _ by omega)).trans hc7
   have cs8 := (c0.cell (p := ⟨b, off + j * 9 + 8, none⟩) (show b < _ by omega)).trans hc8
   have ct0 := (c0.cell (p := ⟨b2, off2 + j * 9, none⟩) (show b2 < _ by omega)).trans hd0
   have ct1 := (c0.cell (p := ⟨b2, off2 + j * 9 + 1, none⟩) (show b2 < _ by omega)).trans hd1
   have ct2 := (c0.cell (p := ⟨b2, off2 + j * 9 + 2, none⟩) (show b2 < _ by omega)).trans hd2
   have ct3 := (c0.cell (p := ⟨b2, off2 + j * 9 + 3, none⟩) (show b2 < _ by omega)).trans hd3
   have ct4 := (c0.cell (p := ⟨b2, off2 + j * 9 + 4, none⟩) (show b2 < _ by omega)).trans hd4
   have ct5 := (c0.cell (p := ⟨b2, off2 + j * 9 + 5, none⟩) (show b2 < _ by omega)).trans hd5
   have ct6 := (c0.cell (p := ⟨b2, off2 + j * 9 + 6, none⟩) (show b2 < _ by omega)).trans hd6
   have ct7 := (c0.cell (p := ⟨b2, off2 + j * 9 + 7, none⟩) (show b2 < _ by omega)).trans hd7
   have ct8 := (c0.cell (p := ⟨b2, off2 + j * 9 + 8, none⟩) (show b2 < _ by omega)).trans hd8
   obtain ⟨z0, hz0⟩ : ∃ q, q = l[j].idx := ⟨_, rfl⟩
   rw [← hz0] at cs0
   obtain ⟨y0, hy0⟩ : ∃ q, q = r[j].idx := ⟨_, rfl⟩
   rw [← hy0] at ct0
   obtain ⟨z1, hz1⟩ : ∃ q, q = l[j].tm := ⟨_, rfl⟩
   rw [← hz1] at cs1
   obtain ⟨y1, hy1⟩ : ∃ q, q = r[j].tm := ⟨_, rfl⟩
   rw [← hy1] at ct1
   obtain ⟨z2, hz2⟩ : ∃ q, q = l[j].cl := ⟨_, rfl⟩
   rw [← hz2] at cs2
   obtain ⟨y2, hy2⟩ : ∃ q, q = r[j].cl := ⟨_, rfl⟩
   rw [← hy2] at ct2
   obtain ⟨z3, hz3⟩ : ∃ q, q = l[j].sq := ⟨_, rfl⟩
   rw [← hz3] at cs3
   obtain ⟨y3, hy3⟩ : ∃ q, q = r[j].sq := ⟨_, rfl⟩
   rw [← hy3] at ct3
   obtain ⟨z4, hz4⟩ : ∃ q, q = l[j].kd := ⟨_, rfl⟩
   rw [← hz4] at cs4
   obtain ⟨y4, hy4⟩ : ∃ q, q = r[j].kd := ⟨_, rfl⟩
   rw [← hy4] at ct4
   obtain ⟨z5, hz5⟩ : ∃ q, q = l[j].oa := ⟨_, rfl⟩
   rw [← hz5] at cs5
   obtain ⟨y5, hy5⟩ : ∃ q, q = r[j].oa := ⟨_, rfl⟩
   rw [← hy5] at ct5
   obtain ⟨z6, hz6⟩ : ∃ q, q = l[j].ob := ⟨_, rfl⟩
   rw [← hz6] at cs6
   obtain ⟨y6, hy6⟩ : ∃ q, q = r[j].ob := ⟨_, rfl⟩
   rw [← hy6] at ct6
   obtain ⟨z7, hz7⟩ : ∃ q, q = l[j].oc := ⟨_, rfl⟩
   rw [← hz7] at cs7
   obtain ⟨y7, hy7⟩ : ∃ q, q = r[j].oc := ⟨_, rfl⟩
   rw [← hy7] at ct7
   obtain ⟨z8, hz8⟩ : ∃ q, q = l[j].od := ⟨_, rfl⟩
   rw [← hz8] at cs8
   obtain ⟨y8, hy8⟩ : ∃ q, q = r[j].od := ⟨_, rfl⟩
   rw [← hy8] at ct8
   have hm1 : l[j] = ⟨z0, z1, z2, z3, z4, z5, z6, z7, z8⟩ := by rw [hz0, hz1, hz2, hz3, hz4, hz5, hz6, hz7, hz8]
   have hm2 : r[j] = ⟨y0, y1, y2, y3, y4, y5, y6, y7, y8⟩ := by rw [hy0, hy1, hy2, hy3, hy4, hy5, hy6, hy7, hy8]
   have HC := jd c0
   by_cases he : l[j] = r[j]
   case pos =>
    rw [hm1, hm2] at he
    injection he with q0 q1 q2 q3 q4 q5 q6 q7 q8
    have HN := jd (show ∀ q, q < j + 1 → l.getD q ent0 = r.getD q ent0 from fun q hq => by
     rcases Nat.lt_or_ge q j with h1 | h1
     · exact HA.out q h1
     · obtain rfl : q = j := by omega
       rw [egetD hjl, egetD hjr, hm1, hm2, q0, q1, q2, q3, q4, q5, q6, q7, q8])
    clear hcA hcB hel hel2 hm1 hm2 hz0 hy0 hc0 hd0 hz1 hy1 hc1 hd1 hz2 hy2 hc2 hd2 hz3 hy3 hc3 hd3 hz4 hy4 hc4 hd4 hz5 hy5 hc5 hd5 hz6 hy6 hc6 hd6 hz7 hy7 hc7 hd7 hz8 hy8 hc8 hd8
    subst q0 q1 q2 q3 q4 q5 q6 q7 q8
    go_wp2_with fail
    go_quiet (fail)
    have CC := jd (below_drewN HC.out nq)
    clear c0 cs0 ct0 cs1 ct1 cs2 ct2 cs3 ct3 cs4 ct4 cs5 ct5 cs6 ct6 cs7 ct7 cs8 ct8
    generalize wr.drewN nq = w9 at *
    go_wp2
    go_roundw
    case rel => exact ⟨j + 1, by omega, by go_num, HN.out, CC.out⟩
    case measure => simp [intOf]; omega
   case neg =>
    have HD := jd (sameEs_step (l := l) (r := r) hjl (by rw [Bool.eq_false_iff]; intro h9; exact he (by have h8 := (sameE_iff _ _).1 h9; rwa [egetD hjl, egetD hjr] at h8)))
    have hne : ¬ (z0 = y0 ∧ z1 = y1 ∧ z2 = y2 ∧ z3 = y3 ∧ z4 = y4 ∧ z5 = y5 ∧ z6 = y6 ∧ z7 = y7 ∧ z8 = y8) := fun h9 => he (by rw [hm1, hm2]; obtain ⟨q0, q1, q2, q3, q4, q5, q6, q7, q8⟩ := h9; rw [q0, q1, q2, q3, q4, q5, q6, q7, q8])
    clear he hm1 hm2 hcA hcB hel hel2 hz0 hy0 hc0 hd0 hz1 hy1 hc1 hd1 hz2 hy2 hc2 hd2 hz3 hy3 hc3 hd3 hz4 hy4 hc4 hd4 hz5 hy5 hc5 hd5 hz6 hy6 hc6 hd6 hz7 hy7 hc7 hd7 hz8 hy8 hc8 hd8
    by_cases q0 : z0 = y0
    case neg =>
     have e0 : (z0 == y0) = false := by simpa using q0
     clear hne q0
     go_wp2_with fail
     go_quiet (fail)
     have CC := jd (below_drewN HC.out nq)
     go_wp2
     go_ret
     exact ⟨ret_bool HD.out.symm, CC.out⟩
    subst q0
    by_cases q1 : z1 = y1
    case neg =>
     have e1 : (z1 == y1) = false := by simpa using q1
     clear hne q1
     go_wp2_with fail
     go_quiet (fail)
     have CC := jd (below_drewN HC.out nq)
     go_wp2
     go_ret
     exact ⟨ret_bool HD.out.symm, CC.out⟩
    subst q1
    by_cases q2 : z2 = y2
    case neg =>
     have e2 : (z2 == y2) = false := by simpa using q2
     clear hne q2
     go_wp2_with fail
     go_quiet (fail)
     have CC := jd (below_drewN HC.out nq)
     go_wp2
     go_ret
     exact ⟨ret_bool HD.out.symm, CC.out⟩
    subst q2
    by_cases q3 : z3 = y3
    case neg =>
     have e3 : (z3 == y3) = false := by simpa using q3
     clear hne q3
     go_wp2_with fail
     go_quiet (fail)
     have CC := jd (below_drewN HC.out nq)
     go_wp2
     go_ret
     exact ⟨ret_bool HD.out.symm, CC.out⟩
    subst q3
    by_cases q4 : z4 = y4
    case neg =>
     have e4 : (z4 == y4) = false := by simpa using q4
     clear hne q4
     go_wp2_with fail
     go_quiet (fail)
     have CC := jd (below_drewN HC.out nq)
     go_wp2
     go_ret
     exact ⟨ret_bool HD.out.symm, CC.out⟩
    subst q4
    by_cases q5 : z5 = y5
    case neg =>
     have e5 : (z5 == y5) = false := by simpa using q5
     clear hne q5
     go_wp2_with fail
     go_quiet (fail)
     have CC := jd (below_drewN HC.out nq)
     go_wp2
     go_ret
     exact ⟨ret_bool HD.out.symm, CC.out⟩
    subst q5
    by_cases q6 : z6 = y6
    case neg =>
     have e6 : (z6 == y6) = false := by simpa using q6
     clear hne q6
     go_wp2_with fail
     go_quiet (fail)
     have CC := jd (below_drewN HC.out nq)
     go_wp2
     go_ret
     exact ⟨ret_bool HD.out.symm, CC.out⟩
    subst q6
    by_cases q7 : z7 = y7
    case neg =>
     have e7 : (z7 == y7) = false := by simpa using q7
     clear hne q7
     go_wp2_with fail
     go_quiet (fail)
     have CC := jd (below_drewN HC.out nq)
     go_wp2
     go_ret
     exact ⟨ret_bool HD.out.symm, CC.out⟩
    subst q7
    by_cases q8 : z8 = y8
    case neg =>
     have e8 : (z8 == y8) = false := by simpa using q8
     clear hne q8
     go_wp2_with fail
     go_quiet (fail)
     have CC := jd (below_drewN HC.out nq)
     go_wp2
     go_ret
     exact ⟨ret_bool HD.out.symm, CC.out⟩
    subst q8
    exact absurd ⟨rfl, rfl, rfl, rfl, rfl, rfl, rfl, rfl, rfl⟩ hne
theorem Ow.ints_foot {w : World} : ∀ {xs : List Int} {us : List Value} {fp : List Nat}, Ow w (xs.flatMap fun y => [Dat.int y]) us fp → fp = []
 | [], _, _, h => by
  have h' : Ow w [] _ _ := h
  cases h'
  rfl
 | x :: xs, us, fp, h => by
  have h' : Ow w (.int x :: xs.flatMap fun y => [Dat.int y]) us fp := h
  cases h' with
  | int h => exact Ow.ints_foot h
theorem Ow.shorter {w : World} {l : List EntM} {A : Option Addr} {n c i : Nat} {fp : List Nat} (h : Ow w [entD l] [.slice A n c] fp) (hi : i ≤ n) : Ow w [entD (l.take i)] [.slice A i c] fp := by
 obtain ⟨us, fp1, h1, h2, rfl⟩ := Ow.lst (k := 9) entC_len (by decide) h
 have hf : fp1 = [] := by
  rw [flat_flat (f := entC) (g := entNs) (fun _ => rfl)] at h2
  exact Ow.ints_foot h2
 subst hf
 have hn : l.length = n := by
  obtain ⟨_, _, _, e, hl, _⟩ := h.rd.ents
  injection e with e1 e2 e3
  rw [hl, e2]
 have e1 : l.flatMap entC = (l.take i).flatMap entC ++ (l.drop i).flatMap entC := by rw [← List.flatMap_append, List.take_append_drop]
 rw [e1] at h2
 obtain ⟨u1, u2, f1, f2, rfl, hff, r1, _⟩ := h2.split
 have hf1 : f1 = [] := (List.append_eq_nil_iff.1 hff.symm).1
 subst hf1
 have l1 : u1.length = i * 9 := by rw [r1.len, flatMap_len entC_len, List.length_take, Nat.min_eq_left (by omega)]
 have eb : (Value.slice A n c).ownBlock = (Value.slice A i c).ownBlock := by cases A <;> rfl
 rw [eb]
 refine Ow.of_lst (n := i) ⟨l1, ?_⟩ r1
 rcases h1.2 with ⟨hv, h0⟩ | ⟨g, cap, cur, hv, hb, hg, hnc, hcm, hs, ht⟩
 · left
   injection hv with e1 e2 e3
   refine ⟨by rw [e1, e3, show i = 0 by omega], by omega⟩
 · right
   injection hv with e1 e2 e3
   subst e1 e3
   refine ⟨g, c, cur, rfl, hb, hg, by omega, hcm, hs, ?_⟩
   have h8 := congrArg (List.take (i * 9)) ht
   rw [List.take_take, Nat.min_eq_left (Nat.mul_le_mul_right 9 (show i ≤ l.length by omega)), List.take_append_of_le_length (Nat.le_of_eq l1.symm), List.take_of_length_le (Nat.le_of_eq l1)] at h8
   exact h8
theorem own_addr {w : World} {l : List EntM} {A : Option Addr} {n c : Nat} {fp : List Nat} (h : Ow w [entD l] [.slice A n c] fp) : (A = none ∧ n = 0 ∧ c = 0) ∨ ∃ g, A = some ⟨g, 0, none⟩ := by
 obtain ⟨us, fp1, h1, _, _⟩ := Ow.lst (k := 9) entC_len (by decide) h
 rcases h1.2 with ⟨hv, _⟩ | ⟨g, cap, cur, hv, _⟩
 · injection hv with e1 e2 e3
   exact .inl ⟨e1, e2, e3⟩
 · injection hv with e1 e2 e3
   exact .inr ⟨g, e1⟩
theorem under_ents : Tryz.prog.underlying 27 = some (.slice (Tryz.prog.elem 27)) := by kernel_rfl
theorem size_ents (w : World) : (sizeOf (Tryz.prog.elem 27)).run Tryz.prog w = .ok 9 w := by kernel_rfl
theorem slice_front {w : World} {l : List EntM} {A : Option Addr} {n c k : Nat} {fp : List Nat} (h : Ow w [entD l] [.slice A n c] fp) (hk : k ≤ n) (w9 : World) :
    (Instr.sliceAt 27 (.slice A n c) none (some (.int .i64 (k : Int))) none).run Tryz.prog w9 = .ok (.slice A k c) w9 := by
 obtain ⟨_, _, _, e, _, hnc, _⟩ := h.rd.ents
 injection e with e1 e2 e3
 subst e1 e2 e3
 rw [run_sliceAt_slice _ _ _ _ _ _ under_ents, run_slice_h _ _ _ _ _ under_ents _ _ (by omega) (by omega), size_ents]
 show Result.ok (sliced A 0 (k : Int).toNat c 9) w9 = _
 unfold sliced
 rcases own_addr h with ⟨e, _, _⟩ | ⟨g, e⟩
 · subst e
   simp
 · subst e
   simp [Addr.add]
theorem ent_flat9 : ∀ x : EntM, entC x = (entNs x).flatMap fun y => [Dat.int y] := fun _ => rfl
def beginsB (l r : List EntM) : Bool := decide (r.length ≤ l.length) && sameEs (l.take r.length) r
set_option maxHeartbeats 3200000 in
theorem w9begins_any (A A2 : Option Addr) (n c n2 c2 B2 : Nat) (fp : List Nat) (l r : List EntM) (w : World) (o : Ow w [entD l] [.slice A n c] fp) (h2 : Rd w B2 [entD r] [.slice A2 n2 c2]) (hB2 : B2 ≤ w.heap.size) (hs2 : entSz r ≤ 1048577) :
    Calls Tryz.prog 19 #[.slice A n c, .slice A2 n2 c2] w fun e w' => e = .returned (.bool (beginsB l r)) ∧ Below w.heap.size w w' := by
 obtain ⟨_, _, _, e, hl, _, _, _⟩ := o.rd.ents
 injection e with e1 e2 e3
 subst e1 e2 e3
 obtain ⟨_, _, _, e, hl2, _, _, _⟩ := h2.ents
 injection e with e1 e2 e3
 subst e1 e2 e3
 by_cases hn : n2 ≤ n
 case neg =>
  have d0 : decide ((n2 : Int) ≤ (n : Int)) = false := decide_eq_false (by omega)
  have d1 : decide (n2 ≤ n) = false := decide_eq_false hn
  have HV := jd (show false = beginsB l r by unfold beginsB; rw [hl, hl2, d1]; rfl)
  clear o h2 hn hl hl2
  go_enter Tryz.func19, Tryz.ntmps19
  go_wp2
  go_ret
  exact ⟨ret_bool HV.out, Below.refl _ _⟩
 case pos =>
  have d0 : decide ((n2 : Int) ≤ (n : Int)) = true := decide_eq_true (by omega)
  have d1 : decide (n2 ≤ n) = true := decide_eq_true hn
  have hs1 := slice_front (l := l) o hn
  have HF := jd (o.shorter hn).rd
  have H2 := jd h2
  have HV := jd (show sameEs (l.take n2) r = beginsB l r by unfold beginsB; rw [hl, hl2, d1, Bool.true_and])
  have HZ := jd (show entSz (l.take n2) ≤ 1048577 by unfold entSz at *; rw [List.length_take]; omega)
  clear o h2 hn hl hl2
  go_enter Tryz.func19, Tryz.ntmps19
  go_wp2_with fail
  refine (w9Same_any _ _ _ _ _ _ _ _ (l.take n2) r w HF.out H2.out (Nat.le_refl _) hB2 HZ.out hs2).mono ?_
  rintro e w1 ⟨rfl, b⟩
  have C := jd b
  clear b hs1
  go_wp2
  go_ret
  exact ⟨ret_bool HV.out, C.out⟩
set_option maxHeartbeats 3200000 in
theorem w9both_any (A A2 : Option Addr) (n c n2 c2 B B2 : Nat) (l r : List EntM) (w : World) (h : Rd w B [entD l] [.slice A n c]) (h2 : Rd w B2 [entD r] [.slice A2 n2 c2]) (hB : B ≤ w.heap.size) (hB2 : B2 ≤ w.heap.size) (hs : entSz l ≤ 1000000) (hs2 : entSz r ≤ 1000000) :
    Calls Tryz.prog 22 #[.slice A n c, .slice A2 n2 c2] w fun e w' => ∃ (A3 : Option Addr) (c3 : Nat), e = .returned (.slice A3 (n + n2) c3) ∧ Has w' w.heap.size [entD (l ++ r)] [.slice A3 (n + n2) c3] ∧ Below w.heap.size w w' := by
 obtain ⟨_, _, _, e, hl, _, _, _⟩ := h.ents
 injection e with e1 e2 e3
 subst e1 e2 e3
 obtain ⟨_, _, _, e, hl2, _, _, _⟩ := h2.ents
 injection e with e1 e2 e3
 subst e1 e2 e3
 have hn : n ≤ 1000000 := by unfold entSz at hs; omega
 have hn2 : n2 ≤ 1000000 := by unfold entSz at hs2; omega
 have S := Sep.nil w w.heap.size
 have c := Below.refl w.heap.size w
 replace S := S.boxAt c.size (w.heap.size) rfl #[] 87
 replace c := al c S
 have hsr := Rd.src (f := entC) (g := entNs) (l := l) (e := 87) (k := 9) ent_flat9 (fun _ => rfl) (by decide) (h.keep (c.mono hB))
 have H2 := jd h2
 replace S := S.blk0 (k := 9) (f := entC)
 replace S := (S.flat (f := entC) (g := entNs) ent_flat9 l).swap
 have hgc := jd c
 clear h h2 c hl hl2
 go_enter Tryz.func22, Tryz.ntmps22
 go_wp2_with (first
  | (at_builtin
     refine wpList_append_fresh (f := entC) (k := 9) (l2 := l) rfl (.tmp 5) (.tmp 6) (by rfl) Tryz.underlying27 infoEntry (by rfl) (by decide) entC_len (by rfl) (S.own_ 0 rfl) (S.nodup_own 0 rfl) (by rfl) hsr.1 (S.own_ 1 rfl) hsr.2 (S.nodup_own 1 rfl) S.apart (by omega) (by omega) ?_
     intro A3 c3 w3 fp3 o3 n3 s3 t3
     have S3 := S.merge t3 o3 n3 s3 hgc.out.size
     have C3 := hgc.out.trans (S.below 0 rfl t3 hgc.out.size)
     have hs4 := Rd.src (f := entC) (g := entNs) (l := r) (e := 87) (k := 9) ent_flat9 (fun _ => rfl) (by decide) (H2.out.keep (C3.mono hB2))
     have S4 := (S3.flat (f := entC) (g := entNs) ent_flat9 r).swap
     have hg4 := jd C3
     clear S o3 n3 s3 t3 hgc hsr S3 C3)
  | (at_builtin
     refine wpList_append_many (f := entC) (k := 9) (l := l) (l2 := r) rfl (.tmp 7) (.tmp 8) (by rfl) Tryz.underlying27 infoEntry (by rfl) (by decide) entC_len (by rfl) (S4.own_ 0 rfl) (S4.nodup_own 0 rfl) (by rfl) hs4.1 (S4.own_ 1 rfl) hs4.2 (S4.nodup_own 1 rfl) S4.apart (by omega) (by omega) ?_
     intro A5 c5 w5 fp5 o5 n5 s5 t5))
 have H := jd (S4.merge t5 o5 n5 s5 hg4.out.size).first
 have C := jd (hg4.out.trans (S4.below 0 rfl t5 hg4.out.size))
 clear S4 o5 n5 s5 t5 hg4 hs4
 go_ret
 exact ⟨_, _, rfl, H.out, C.out⟩
end Go.Proofs.YtmjifhjhialcbaaGreat
