/- Parts of my texts: RecH TornM. -/
import Derived.Test.YtmjifhjhialcbaaU16
namespace Go.Proofs.Ytmjifhjhialcbaa
set_option maxRecDepth 100000
set_option linter.unusedVariables false
open Go.RowKit
theorem headOf_ok {l : List EntM} (hr : RunS l) {num : Int} {base : Nat} (hn : 0 ≤ num ∧ num ≤ (base : Int)) (h1 : 1 ≤ base) (h2 : base ≤ l.length) (h3 : base ≤ 20) : headOkB (headOf l num base) = true ∧ (headOf l num base).seen = overM [] (l.take base) := by
 have hl : (l.take base).length = base := by rw [List.length_take]; omega
 have hrt := hr.take base
 have ho := hrt.over0 (by omega)
 have hs : (headOf l num base).seen = overM [] (l.take base) := by
  show (seenOverM [] (l.take base)).1 = _
  rw [ho]
 have hlast := hrt.last (by omega)
 have hseen := hrt.seen (by omega) (Nat.le_refl _)
 rw [List.take_length] at hseen
 rw [hl] at hlast
 have hb : base - 1 < l.length := by omega
 have htm := (entB_iff _).1 (run_ents hr _ (List.getElem_mem hb))
 refine ⟨(headOkB_iff _).2 ⟨?_, hn, ?_, Or.inl ?_, by rw [hs]; exact hseen, by rw [hs]; exact hlast⟩, hs⟩
 · show 0 ≤ (base : Int) ∧ (base : Int) ≤ 2000
   omega
 · show 0 ≤ (if base = 0 then (0 : Int) else (l.getD (base - 1) ent0).tm) ∧ (if base = 0 then (0 : Int) else (l.getD (base - 1) ent0).tm) ≤ 1000000
   rw [if_neg (by omega), egetD hb]
   omega
 · show 0 < (base : Int)
   omega
theorem unsummed_is {c r : List Int} (h : unsummed c = (r, true)) : r = c.take (c.length - 1) ∧ 0 < c.length := by
 unfold unsummed at h
 split at h
 next hc => exact ⟨(congrArg Prod.fst h).symm, hc.2.1⟩
 next => cases congrArg Prod.snd h
theorem torn_no {r0 r1 o r : List Int} {n : Nat} (hn : n = 9 ∨ n = 11) (l0 : r0.length = n + 2) (l1 : r1.length = n + 2) (k0 : rowOk r0 = true) (k1 : rowOk r1 = true) (t0 : r0.getD n 0 = r0.getD 0 0 ∧ r0.getD (n + 1) 0 = r0.getD 0 0) (hne : r0.getD 0 0 ≠ r1.getD 0 0)
    (ho : ∃ (i : Nat) (y : Int), o = withSum r0 ∨ o = (withSum r0).set i y) (hr : unsummed (torn (withSum r1) o) = (r, true)) : (rowSlotM r).2 = false ∧ (rowHeadM r).2 = false := by
 have w0 := withSum_lenR k0 (by omega)
 have w1 := withSum_lenR k1 (by omega)
 obtain ⟨i, y, ho⟩ := ho
 have hol : o.length = n + 3 := by rcases ho with rfl | rfl <;> simp [w0, l0]
 have hget : ∀ j, j < n + 2 → j ≠ i → o.getD j 0 = r0.getD j 0 := fun j hj hji => by
  have e1 : (withSum r0).getD j 0 = r0.getD j 0 := by
   rw [withSum_yes k0 (by omega), List.getD_eq_getElem?_getD, List.getElem?_append_left (by omega), ← List.getD_eq_getElem?_getD]
  rcases ho with rfl | rfl
  · exact e1
  · rw [List.getD_eq_getElem?_getD, List.getElem?_set_ne (by omega), ← List.getD_eq_getElem?_getD, e1]
 obtain ⟨hr1, _⟩ := unsummed_is hr
 have hh : (withSum r1).length / 2 = (n + 3) / 2 := by rw [w1, l1]
 have htl : (torn (withSum r1) o).length = n + 3 := by
  unfold torn
  rw [List.length_append, List.length_take, List.length_drop, w1, l1, hol]
  omega
 have hrl : r.length = n + 2 := by rw [hr1, List.length_take, htl]; omega
 have g0 : r.getD 0 0 = r1.getD 0 0 := by
  rw [hr1, List.getD_eq_getElem?_getD, List.getElem?_take, if_pos (by omega)]
  unfold torn
  rw [List.getElem?_append_left (by rw [List.length_take, w1, l1]; omega), List.getElem?_take, if_pos (by rw [w1, l1]; omega), withSum_yes k1 (by omega), List.getElem?_append_left (by omega), ← List.getD_eq_getElem?_getD]
 have gj : ∀ j, (n + 3) / 2 ≤ j → j < n + 2 → r.getD j 0 = o.getD j 0 := fun j h1 h2 => by
  rw [hr1, List.getD_eq_getElem?_getD, List.getElem?_take, if_pos (by omega)]
  unfold torn
  have hl : ((withSum r1).take ((withSum r1).length / 2)).length = (n + 3) / 2 := by rw [List.length_take, w1, l1]; omega
  rw [List.getElem?_append_right (by omega), hl, hh, List.getElem?_drop, show (n + 3) / 2 + (j - (n + 3) / 2) = j by omega, ← List.getD_eq_getElem?_getD]
 have hno : twice r n = false := by
  apply twice_no
  rintro ⟨_, q1, q2⟩
  rw [gj n (by omega) (by omega), g0] at q1
  rw [gj (n + 1) (by omega) (by omega), g0] at q2
  by_cases e : i = n
  · rw [hget (n + 1) (by omega) (by omega), t0.2] at q2
    exact hne q2
  · rw [hget n (by omega) (by omega), t0.1] at q1
    exact hne q1
 rcases hn with rfl | rfl
 · refine ⟨?_, by rw [rowHead_len (by omega)]⟩
   unfold rowSlotM
   rw [if_neg (by rw [hno]; decide)]
 · refine ⟨by rw [rowSlot_len (by omega)], ?_⟩
   unfold rowHeadM
   rw [if_neg (by rw [hno]; decide)]
def TornP (r0 r1 : List Int) (n : Nat) : Prop := r0.length = n ∧ r1.length = n ∧ rowOk r0 = true ∧ rowOk r1 = true ∧ ∀ o r, (∃ (i : Nat) (y : Int), o = withSum r0 ∨ o = (withSum r0).set i y) → unsummed (torn (withSum r1) o) = (r, true) → (rowSlotM r).2 = false ∧ (rowHeadM r).2 = false
theorem torn_slot {e e' : EntM} (h : entB e = true) (h' : entB e' = true) (hne : e.idx ≠ e'.idx) : TornP (slotRowM e) (slotRowM e') 11 := by
 obtain ⟨k0, l0⟩ := slotRow_ok h
 obtain ⟨k1, l1⟩ := slotRow_ok h'
 refine ⟨l0, l1, k0, k1, fun o r ho hr => torn_no (n := 9) (Or.inl rfl) l0 l1 k0 k1 ?_ ?_ ho hr⟩
 · rw [slotRow_yes h]
   exact ⟨by simp [entNs], by simp [entNs]⟩
 · rw [slotRow_yes h, slotRow_yes h']
   simpa [entNs] using hne
theorem headRow_at {h : HeadM} (ho : headOkB h = true) : (headRowM h).getD 0 0 = h.num ∧ (headRowM h).getD 11 0 = h.num ∧ (headRowM h).getD 12 0 = h.num := by
 have hl := markNs_len h.seen 4
 refine ⟨by rw [headRow_yes ho]; rfl, ?_, ?_⟩
 · rw [headRow_yes ho, List.getD_eq_getElem?_getD, List.getElem?_append_right (by simp [hl])]
   simp [hl]
 · rw [headRow_yes ho, List.getD_eq_getElem?_getD, List.getElem?_append_right (by simp [hl])]
   simp [hl]
theorem torn_head {g g' : HeadM} (h : headOkB g = true) (h' : headOkB g' = true) (hne : g.num ≠ g'.num) : TornP (headRowM g) (headRowM g') 13 := by
 obtain ⟨k0, l0⟩ := headRow_ok h
 obtain ⟨k1, l1⟩ := headRow_ok h'
 obtain ⟨a0, a1, a2⟩ := headRow_at h
 obtain ⟨b0, _, _⟩ := headRow_at h'
 refine ⟨l0, l1, k0, k1, fun o r ho hr => torn_no (n := 11) (Or.inr rfl) l0 l1 k0 k1 ?_ ?_ ho hr⟩
 · rw [a0, a1, a2]
   exact ⟨rfl, rfl⟩
 · rw [a0, b0]
   exact hne
theorem torn_two {l : List EntM} (hr : RunS l) {j k : Nat} (hj : j < l.length) (hk : k < l.length) (hne : j ≠ k) : TornP (slotRowM l[j]) (slotRowM l[k]) 11 :=
 torn_slot (run_ents hr _ (List.getElem_mem hj)) (run_ents hr _ (List.getElem_mem hk)) (by rw [hr.idx hj, hr.idx hk]; omega)
theorem torn_heads {l : List EntM} (hr : RunS l) (hl : l.length = 22) {num : Int} {b b' : Nat} (h0 : 0 ≤ num) (h1 : num < (b : Int)) (h2 : num + 2 < (b' : Int)) (hb : b ≤ 11) (hb' : b' ≤ 11) : TornP (headRowM (headOf l num b)) (headRowM (headOf l (num + 2) b')) 13 :=
 torn_head (headOf_ok hr (by omega) (by omega) (by omega) (by omega)).1 (headOf_ok hr (by omega) (by omega) (by omega) (by omega)).1 (show num ≠ num + 2 by omega)
theorem ok_sz9' {d : DiskM} (h : diskOk d = true) : d.sz ≤ 1048576 := Nat.le_trans (ok_sz9 h) (by decide)
theorem fallen_okT {d : DiskM} (h : diskOk d = true) (fs : List Int) : diskOk (fallen d fs) = true := by
 unfold fallen
 rw [if_pos h]
 exact fall_ok h false fs
theorem torn_disk {r0 r1 : List Int} {n : Nat} (h : TornP r0 r1 n) (hn : 11 ≤ n ∧ n ≤ 13) {D0 : DiskM} (hD0 : D0 = newDisk 1) :
    ∃ D1 D2, wrote D0 0 (withSum r0) = (D1, true) ∧ synced D1 = D2 ∧ D0.sz ≤ 1048576 ∧ D1.sz ≤ 1048576 ∧ D2.sz ≤ 1048576 ∧ (withSum r0).length ≤ 48 ∧ (withSum r1).length ≤ 48 ∧
     ∀ i y : Int, ∃ D3 rb, rotted D2 0 i y = (D3, rb) ∧ (0 ≤ y ∧ y < 40 → D3.sz ≤ 1048576 ∧ ∃ D4 D5 tr, wrote D3 0 (withSum r1) = (D4, true) ∧ fallen D4 [2] = D5 ∧ D4.sz ≤ 1048576 ∧ D5.sz ≤ 1048576 ∧ readAt D5 0 = (tr, true) ∧ 6 ≤ tr.length ∧ tr.length ≤ 48 ∧ ∀ r, unsummed tr = (r, true) → (rowSlotM r).2 = false ∧ (rowHeadM r).2 = false) := by
 obtain ⟨l0, l1, k0, k1, hT⟩ := h
 have w0 := withSum_ok k0 (by omega)
 have w1 := withSum_ok k1 (by omega)
 have z0 := withSum_lenR k0 (by omega)
 have z1 := withSum_lenR k1 (by omega)
 have hd0 : diskOk ⟨[[]], []⟩ = true := by decide
 have e0 : D0 = ⟨[[]], []⟩ := by rw [hD0]; rfl
 have e1 : wrote ⟨[[]], []⟩ ((0 : Nat) : Int) (withSum r0) = (⟨[[]], [(((0 : Nat) : Int), withSum r0)]⟩, true) := wrote_safe hd0 (by simp) w0
 have e2 : synced ⟨[[]], [(((0 : Nat) : Int), withSum r0)]⟩ = ⟨[withSum r0], []⟩ := synced_one hd0 (by simp) w0
 have hd1 : diskOk ⟨[[]], [(((0 : Nat) : Int), withSum r0)]⟩ = true := ok_one hd0 (by simp) w0
 have hd2 : diskOk ⟨[withSum r0], []⟩ = true := by have := synced_ok hd1; rwa [e2] at this
 subst e0
 refine ⟨_, _, e1, e2, ok_sz9' hd0, ok_sz9' hd1, ok_sz9' hd2, by omega, by omega, fun i y => ?_⟩
 obtain ⟨ks', h1, h2, h3, h4⟩ := rot_shape hd2 0 i y
 refine ⟨(rotted ⟨[withSum r0], []⟩ 0 i y).1, (rotted ⟨[withSum r0], []⟩ 0 i y).2, rfl, fun _ => ?_⟩
 rw [h1]
 have h3 : ks'.length = 1 := h3
 obtain ⟨o, rfl⟩ : ∃ o, ks' = [o] := List.length_eq_one_iff.1 h3
 have ho : ∃ (i : Nat) (y : Int), o = withSum r0 ∨ o = (withSum r0).set i y := ⟨i.toNat, y, h4 0 (by simp)⟩
 have e3 : wrote ⟨[o], []⟩ ((0 : Nat) : Int) (withSum r1) = (⟨[o], [(((0 : Nat) : Int), withSum r1)]⟩, true) := wrote_safe h2 (by simp) w1
 have hd4 : diskOk ⟨[o], [(((0 : Nat) : Int), withSum r1)]⟩ = true := ok_one h2 (by simp) w1
 have e4 : fallen ⟨[o], [(((0 : Nat) : Int), withSum r1)]⟩ [2] = ⟨[torn (withSum r1) o], []⟩ := by
  unfold fallen
  rw [if_pos hd4]
  unfold fall
  show (⟨fellTo false [2] [o] [(((0 : Nat) : Int), withSum r1)] 1, []⟩ : DiskM) = _
  simp [fellTo, fell]
 have hd5 : diskOk ⟨[torn (withSum r1) o], []⟩ = true := by have := fallen_okT hd4 [2]; rwa [e4] at this
 have hol : o.length = n + 1 := by
  obtain ⟨i, y, ho⟩ := ho
  rcases ho with rfl | rfl <;> simp [z0, l0]
 have htl : (torn (withSum r1) o).length = n + 1 := by
  unfold torn
  rw [List.length_append, List.length_take, List.length_drop, z1, l1, hol]
  omega
 exact ⟨ok_sz9' h2, _, _, _, e3, e4, ok_sz9' hd4, ok_sz9' hd5, read_safe hd5 (I := 0) (by simp), by simp [htl]; omega, by simp [htl]; omega, fun r hr => hT o r ho hr⟩
end Go.Proofs.Ytmjifhjhialcbaa
