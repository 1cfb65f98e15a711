/- Parts of my texts: EntD4. -/
import Derived.Test.YtmjifhjhialcbaaU9
namespace Go.Proofs.Ytmjifhjhialcbaa
set_option maxRecDepth 100000
set_option linter.unusedVariables false
open Go.RowKit
def RunT (l : List EntM) : Prop := RunS l ∧ ∀ j (hj : j < l.length), l[j].tm ≤ 5 * ((j : Int) + 1)
theorem RunT.nil : RunT [] := ⟨RunS.nil, fun j hj => absurd hj (by simp)⟩
theorem RunT.snoc {l : List EntM} {e : EntM} (h : RunT l) (he : entB e = true) (hi : e.idx = (l.length : Int) + 1) (ht : ∀ x ∈ l, x.tm ≤ e.tm) (hb : e.sq ≤ 2 * ((l.length : Int) + 1)) (hq : ∀ x ∈ l, x.cl = e.cl → x.sq < e.sq) (h5 : e.tm ≤ 5 * ((l.length : Int) + 1)) : RunT (l ++ [e]) := by
 refine ⟨h.1.snoc he hi ht hb hq, fun j hj => ?_⟩
 rw [List.length_append, List.length_singleton] at hj
 rcases Nat.lt_or_ge j l.length with h1 | h1
 · rw [List.getElem_append_left h1]
   exact h.2 j h1
 · obtain rfl : j = l.length := by omega
   simpa using h5
theorem RunT.take {l : List EntM} (h : RunT l) (k : Nat) : RunT (l.take k) := by
 have hs : RunS (l.take k) := by
  refine ⟨fun j hj => ?_, fun j hj => ?_⟩
  · have hj' : j < l.length := by rw [List.length_take] at hj; omega
    obtain ⟨a, b, c⟩ := h.1.1 j hj'
    simp only [List.getElem_take]
    exact ⟨a, b, fun i hi => c i hi⟩
  · have hj' : j < l.length := by rw [List.length_take] at hj; omega
    obtain ⟨a, b⟩ := h.1.2 j hj'
    simp only [List.getElem_take]
    exact ⟨a, fun i hi => b i hi⟩
 exact ⟨hs, fun j hj => by simp only [List.getElem_take]; exact h.2 j (by rw [List.length_take] at hj; omega)⟩
theorem far_cell {w : World} {q i p o : Nat} {u : Value} (h : p ≠ q) : (w.setCell ⟨q, i, none⟩ u).cell? ⟨p, o, none⟩ = w.cell? ⟨p, o, none⟩ := by
 unfold World.cell?
 rw [show (w.setCell ⟨q, i, none⟩ u).heap[(⟨p, o, none⟩ : Addr).block]? = w.heap[(⟨p, o, none⟩ : Addr).block]? from Below.heap_setCell w ⟨q, i, none⟩ u p h]
set_option maxHeartbeats 12800000 in
theorem w9list_from (B p m : Nat) (hm : m ≤ 60) (A0 : Option Addr) (n0 cap0 : Nat) (bl : List EntM) (hbl : RunT bl) (hb60 : bl.length ≤ 60) (w : World) (h : LCur w B p) (hrd : Rd w w.heap.size [entD bl] [.slice A0 n0 cap0]) :
    Calls Try.prog 7 #[.pointer (some ⟨p, 0, none⟩), .slice A0 n0 cap0, .int .i64 (m : Int)] w (fun e w' => ∃ (l : List EntM) (A : Option Addr) (n c : Nat), l.length = m ∧ RunT (bl ++ l) ∧ e = .returned (.slice A n c) ∧ LCur w' B p ∧ w.grownBy w' (some p) ∧ Has w' w.heap.size [entD l] [.slice A n c]) := by
 have X := DrL.start h
 obtain ⟨_, _, _, e, hbn, _, _, hel⟩ := hrd.ents
 injection e with e1 e2 e3
 subst e1 e2 e3
 have HBN := jd hbn
 have HBL := jd hbl
 have hn60 : n0 ≤ 60 := by omega
 have CB := jd (((Below.refl w.heap.size w).alloc (Nat.le_refl _) (.cells #[] 35)).alloc (by simp) (.cells (iA (List.replicate 6 0)) 2))
 clear h hrd hbn hbl hb60
 obtain ⟨ds0, hds0⟩ : ∃ ds0, ds0 = List.replicate 6 (0 : Int) := ⟨_, rfl⟩
 rw [← hds0] at CB
 have HD0 := jd (show ds0.length = 6 by rw [hds0, List.length_replicate])
 have HDZ := jd (show ∀ i, i < 6 → ds0.getD i 0 = 0 from fun i hi => by rw [hds0]; exact rep6 i hi)
 have hmk : ∀ w9 : World, (Instr.makeSlice 30 (.int .i64 6) (.int .i64 6)).run Try.prog w9 = .ok (.slice (some ⟨w9.heap.size, 0, none⟩) 6 6) (w9.alloc (.cells (iA ds0) 2)) := fun w9 => by
  have h := run_make_k (P := Try.prog) 30 2 (.int .i64 0) #[.int .i64 0] 1 8 Try.underlying30 info64 rfl .i64 .i64 6 (by omega) (by omega) w9
  rw [made_zeros, ← hds0] at h
  exact h
 clear hds0
 go_enter Try.func7, Try.ntmps7
 replace X := X.boxAt (w.heap.size) rfl #[] 35
 replace X := X.with_ (X.sep.blk0 (k := 9) (f := entC))
 have XT := jd (X.boxAt (w.heap.size + 1) (by simp) (iA ds0) 2)
 clear X
 go_wp2_with fail
 have X := XT.out
 clear XT hmk
 generalize (w.alloc (.cells #[] 35)).alloc (.cells (iA ds0) 2) = w1 at *
 obtain ⟨rt, hrt⟩ : ∃ rt, rt = w.heap.size + 1 := ⟨_, rfl⟩
 rw [← hrt] at X ⊢
 have HRT := jd (show w.heap.size ≤ rt by omega)
 clear hrt
 generalize (some (⟨w.heap.size, 0, none⟩ : Addr)) = AL at *
 generalize [w.heap.size] = fp0 at *
 replace X := X.with_ X.sep.swap
 have X0 := jd X
 clear X
 go_loopw [9, 10, 11] (fun xv tv iv wr => ∃ (j : Nat) (t : Int) (qs : List Int), iv = .int .i64 (j : Int) ∧ j ≤ n0 ∧ xv = .int .i64 (j : Int) ∧ tv = .int .i64 t ∧ (∀ x ∈ bl.take j, x.tm ≤ t) ∧ (0 ≤ t ∧ t ≤ 5 * (j : Int)) ∧ qs.length = 6 ∧ (∀ i, i < 6 → 0 ≤ qs.getD i 0 ∧ qs.getD i 0 ≤ 2 * (j : Int)) ∧ (∀ x ∈ bl.take j, x.sq ≤ qs.getD x.cl.toNat 0) ∧ DrL w wr B p [.own [entD []] [.slice AL 0 0] fp0, .blk rt (iA qs) 2] ∧ Below w.heap.size w wr) (fun _ _ iv _ => n0 - (intOf iv).toNat)
 case atStart => exact ⟨0, 0, ds0, rfl, Nat.zero_le _, rfl, rfl, fun x hx => by simp at hx, by omega, HD0.out, fun i hi => by rw [HDZ.out i hi]; omega, fun x hx => by simp at hx, X0.out, CB.out⟩
 case round =>
  obtain ⟨j, t, qs, rfl, hj, rfl, rfl, htm, ht, hq6, hqs, hsq, X, c⟩ := hrel
  clear X0
  by_cases hlt : j < n0
  case pos =>
   have hjl : j < bl.length := by have := HBN.out; omega
   obtain ⟨bb, off, rfl, hbb, hc⟩ := hel (by omega)
   have hcj := hc j hjl
   have hq0 := hcj.1
   have hq1 := hcj.2.1
   have hq2 := hcj.2.2.1
   have hq3 := hcj.2.2.2.1
   clear hcj
   have hcell : ∀ o v9, w.cell? ⟨bb, o, none⟩ = some v9 → wr.cell? ⟨bb, o, none⟩ = some v9 := fun o v9 h9 => (c.cell (p := ⟨bb, o, none⟩) hbb).trans h9
   have hc0 := hcell _ _ hq0
   have hc1 := hcell _ _ hq1
   have hc2 := hcell _ _ hq2
   have hc3 := hcell _ _ hq3
   obtain ⟨x0, hx0⟩ : ∃ q, q = bl[j].idx := ⟨_, rfl⟩
   rw [← hx0] at hc0
   obtain ⟨x1, hx1⟩ : ∃ q, q = bl[j].tm := ⟨_, rfl⟩
   rw [← hx1] at hc1
   obtain ⟨x2, hx2⟩ : ∃ q, q = bl[j].cl := ⟨_, rfl⟩
   rw [← hx2] at hc2
   obtain ⟨x3, hx3⟩ : ∃ q, q = bl[j].sq := ⟨_, rfl⟩
   rw [← hx3] at hc3
   have hrunj := HBL.out.1.1 j hjl
   have hent := (entB_iff _).1 hrunj.1
   rw [← hx1, ← hx2, ← hx3] at hent
   have hidx := hrunj.2.1
   rw [← hx0] at hidx
   obtain ⟨s, hs⟩ : ∃ s : Nat, x2 = (s : Int) := ⟨x2.toNat, by omega⟩
   have hs2 : 2 ≤ s ∧ s ≤ 5 := by omega
   have hsb := (HBL.out.1.2 j hjl).1
   rw [← hx3] at hsb
   have h5 := HBL.out.2 j hjl
   rw [← hx1] at h5
   have HTM := jd (show ∀ x ∈ bl.take (j + 1), x.tm ≤ x1 from fun x hx => by
    obtain ⟨i, hi, rfl⟩ := List.getElem_of_mem hx
    rw [List.length_take] at hi
    rw [List.getElem_take]
    by_cases e : i = j
    · subst e; omega
    · have := hrunj.2.2 i (by omega); rw [hx1]; omega)
   have HSQ := jd (show ∀ x ∈ bl.take (j + 1), x.sq ≤ (qs.set s x3).getD x.cl.toNat 0 from fun x hx => by
    obtain ⟨i, hi, rfl⟩ := List.getElem_of_mem hx
    rw [List.length_take] at hi
    rw [List.getElem_take]
    by_cases e : bl[i].cl = x2
    · have e2 : bl[i].cl.toNat = s := by omega
      rw [e2, show (qs.set s x3).getD s 0 = x3 by simp [List.getD, hq6, show s < 6 by omega]]
      by_cases e3 : i = j
      · subst e3; omega
      · have := (HBL.out.1.2 j hjl).2 i (by omega) (by rw [e, hx2]); omega
    · have hne : ¬ s = bl[i].cl.toNat := by
        have hi' := (entB_iff _).1 (HBL.out.1.1 i (by omega)).1
        omega
      rw [show (qs.set s x3).getD bl[i].cl.toNat 0 = qs.getD bl[i].cl.toNat 0 by simp [List.getD, hne]]
      have e3 : i ≠ j := fun e4 => by subst e4; exact e hx2.symm
      have h8 := hsq bl[i] (by
       have : (bl.take j)[i]'(by rw [List.length_take]; omega) ∈ bl.take j := List.getElem_mem _
       rwa [List.getElem_take] at this)
      exact h8)
   have HQS := jd (show ∀ i, i < 6 → 0 ≤ (qs.set s x3).getD i 0 ∧ (qs.set s x3).getD i 0 ≤ 2 * ((j + 1 : Nat) : Int) from fun i hi => by
    by_cases e : i = s
    · subst e
      rw [show (qs.set i x3).getD i 0 = x3 by simp [List.getD, hq6, hi]]
      omega
    · have h9 := hqs i hi
      rw [show (qs.set s x3).getD i 0 = qs.getD i 0 by simp [List.getD, Ne.symm e]]
      omega)
   have HLQ := jd (show (qs.set s x3).length = 6 by rw [List.length_set]; exact hq6)
   have HX0 := jd hidx
   have HX1 := jd (show 0 ≤ x1 ∧ x1 ≤ 5 * ((j + 1 : Nat) : Int) by omega)
   have s0 : (0 : Int) ≤ (s : Int) := by omega
   have s1 : (s : Int) < 6 := by omega
   have s2 : s < 6 := by omega
   have j0 : (0 : Int) ≤ (j : Int) := by omega
   have j1 : (j : Int) < (n0 : Int) := by omega
   subst hs
   have HJ := jd hlt
   have HQ6 := jd hq6
   have HBB := jd hbb
   have C := jd c
   clear hent hidx hrunj hsb h5 hx0 hx1 hx2 hx3 hq0 hq1 hq2 hq3 hc hel hcell htm ht hqs hsq hq6 hjl c
   go_wp2_with fail
   refine wp_region_L (fun v => v.cell? ⟨bb, off + j * 9 + 2, none⟩ = some (.int .i64 (s : Int)) ∧ v.cell? ⟨bb, off + j * 9 + 3, none⟩ = some (.int .i64 x3) ∧ v.cell? ⟨bb, off + j * 9, none⟩ = some (.int .i64 x0) ∧ v.cell? ⟨bb, off + j * 9 + 1, none⟩ = some (.int .i64 x1)) 12 (by kernel_rfl) ?_
   replace X := X.drew
   have C1 := jd (C.out.drew)
   have HF : wr.drew.cell? ⟨bb, off + j * 9 + 2, none⟩ = some (.int .i64 (s : Int)) ∧ wr.drew.cell? ⟨bb, off + j * 9 + 3, none⟩ = some (.int .i64 x3) ∧ wr.drew.cell? ⟨bb, off + j * 9, none⟩ = some (.int .i64 x0) ∧ wr.drew.cell? ⟨bb, off + j * 9 + 1, none⟩ = some (.int .i64 x1) := ⟨hc2, hc3, hc0, hc1⟩
   generalize wr.drew = w3 at *
   refine tk 0 (v := ?_) rfl rfl HF (.inl ⟨by rfl, ?_⟩) ?_
   rotate_left 1
   · (rintro v ⟨a0, a1, a2, a3⟩; go_simp; try with_reducible rfl)
   try simp only [Act.put]
   refine tk 1 (v := ?_) rfl rfl HF (.inl ⟨by rfl, ?_⟩) ?_
   rotate_left 1
   · (rintro v ⟨a0, a1, a2, a3⟩; go_simp; try with_reducible rfl)
   try simp only [Act.put]
   refine tk 2 (v := ?_) rfl rfl HF (.inl ⟨by rfl, ?_⟩) ?_
   rotate_left 1
   · (rintro v ⟨a0, a1, a2, a3⟩; go_simp; try with_reducible rfl)
   try simp only [Act.put]
   refine tk 3 (v := ?_) rfl rfl HF (.inl ⟨by rfl, ?_⟩) ?_
   rotate_left 1
   · (rintro v ⟨a0, a1, a2, a3⟩; go_simp; try with_reducible rfl)
   try simp only [Act.put]
   refine tk 4 (v := ?_) rfl rfl HF (.inl ⟨by rfl, ?_⟩) ?_
   rotate_left 1
   · (rintro v ⟨a0, a1, a2, a3⟩; go_simp; try with_reducible rfl)
   try simp only [Act.put]
   refine tk 5 (v := ?_) rfl rfl HF (.inl ⟨by rfl, ?_⟩) ?_
   rotate_left 1
   · (rintro v ⟨a0, a1, a2, a3⟩; go_simp; try with_reducible rfl)
   try simp only [Act.put]
   refine tk 6 (v := ?_) rfl rfl HF (.inl ⟨by rfl, ?_⟩) ?_
   rotate_left 1
   · (rintro v ⟨a0, a1, a2, a3⟩; go_simp; try with_reducible rfl)
   try simp only [Act.put]
   refine tk 7 (v := ?_) rfl rfl HF (.inl ⟨by rfl, ?_⟩) ?_
   rotate_left 1
   · (rintro v ⟨a0, a1, a2, a3⟩; go_simp; try with_reducible rfl)
   try simp only [Act.put]
   refine tk 8 (v := ?_) rfl rfl HF (.inl ⟨by rfl, ?_⟩) ?_
   rotate_left 1
   · (rintro v ⟨a0, a1, a2, a3⟩; go_simp; try with_reducible rfl)
   try simp only [Act.put]
   refine tk 9 (v := ?_) rfl rfl HF (.inl ⟨by rfl, ?_⟩) ?_
   rotate_left 1
   · (rintro v ⟨a0, a1, a2, a3⟩; go_simp; try with_reducible rfl)
   try simp only [Act.put]
   refine tk 10 (v := ?_) rfl rfl HF (.inl ⟨by rfl, ?_⟩) ?_
   rotate_left 1
   · (rintro v ⟨a0, a1, a2, a3⟩; go_simp; try with_reducible rfl)
   try simp only [Act.put]
   refine tk 11 (v := ?_) rfl rfl HF (.inl ⟨by rfl, ?_⟩) ?_
   rotate_left 1
   · (rintro v ⟨a0, a1, a2, a3⟩; go_simp; try with_reducible rfl)
   try simp only [Act.put]
   have t1 := (X.sep.at_ 1 rfl).free s
   obtain ⟨qv, hqv⟩ : ∃ q, q = qs.getD s 0 := ⟨_, rfl⟩
   have t2 : w3.cell? ⟨rt, s, none⟩ = some (.int .i64 qv) := ((X.sep.at_ 1 rfl).cell s).trans ((iA_at (by rw [HQ6.out]; omega)).trans (by rw [hqv]))
   refine wpAnyL_step (i := 12) (by kernel_rfl) rfl rfl ?_
   intro K hK
   go_simp
   refine hK _ _ (fun h => nomatch (show true = false from h)) ?_
   clear hK K
   try simp only [Act.put]
   refine wpAnyL_done (by kernel_rfl) ?_ _
   replace X := X.put 1 rfl s (.int .i64 x3)
   replace X : DrL w _ B p [_, .blk rt ((iA qs).setIfInBounds s (.int .i64 x3)) 2] := X
   rw [iA_set] at X
   have C2 := jd (C1.out.setCell (p := ⟨rt, s, none⟩) HRT.out (.int .i64 x3))
   have u0 := (far_cell (w := w3) (q := rt) (i := s) (o := off + j * 9) (u := .int .i64 x3) (show bb ≠ rt by have := HBB.out; have := HRT.out; omega)).trans HF.2.2.1
   have u1 := (far_cell (w := w3) (q := rt) (i := s) (o := off + j * 9 + 1) (u := .int .i64 x3) (show bb ≠ rt by have := HBB.out; have := HRT.out; omega)).trans HF.2.2.2
   generalize w3.setCell ⟨rt, s, none⟩ (.int .i64 x3) = w5 at *
   have X1 := jd X
   clear X HF t1 t2 hqv hc0 hc1 hc2 hc3
   go_wp2
   go_roundw
   case rel => exact ⟨j + 1, x1, qs.set s x3, by go_num, by have := HJ.out; omega, by rw [HX0.out]; go_num, rfl, HTM.out, HX1.out, HLQ.out, HQS.out, HSQ.out, X1.out, C2.out⟩
   case measure => have := HJ.out; simp [intOf] <;> omega
  case neg =>
  obtain rfl : j = n0 := by omega
  have HT0 := jd (show ∀ x ∈ bl, x.tm ≤ t by have := htm; rwa [show bl.take j = bl from List.take_of_length_le (by rw [HBN.out]; exact Nat.le_refl _)] at this)
  have HS0 := jd (show ∀ x ∈ bl, x.sq ≤ qs.getD x.cl.toNat 0 by have := hsq; rwa [show bl.take j = bl from List.take_of_length_le (by rw [HBN.out]; exact Nat.le_refl _)] at this)
  have HTB := jd ht
  have HD6 := jd hq6
  have HQB := jd hqs
  have X0 := jd X
  clear X htm ht hq6 hqs hsq hlt hj c hel
  go_wp2_with fail
  go_loopw [2, 7, 9, 10] (fun mv lv xv tv wr => ∃ (k : Nat) (l : List EntM) (t : Int) (qs : List Int) (A : Option Addr) (n c : Nat) (fp : List Nat), mv = .int .i64 ((m - k : Nat) : Int) ∧ lv = .slice A n c ∧ xv = .int .i64 ((j + k : Nat) : Int) ∧ tv = .int .i64 t ∧ k ≤ m ∧ n = k ∧ l.length = k ∧ RunT (bl ++ l) ∧ (∀ x ∈ bl ++ l, x.sq ≤ qs.getD x.cl.toNat 0) ∧ (∀ x ∈ bl ++ l, x.tm ≤ t) ∧ (0 ≤ t ∧ t ≤ 5 * ((j + k : Nat) : Int)) ∧ qs.length = 6 ∧ (∀ i, i < 6 → 0 ≤ qs.getD i 0 ∧ qs.getD i 0 ≤ 2 * ((j + k : Nat) : Int)) ∧ DrL w wr B p [.own [entD l] [.slice A n c] fp, .blk rt (iA qs) 2]) (fun mv _ _ _ _ => (intOf mv).toNat)
  case atStart => exact ⟨0, [], t, qs, _, 0, _, _, rfl, rfl, rfl, rfl, by omega, rfl, rfl, by rw [List.append_nil]; exact HBL.out, by rw [List.append_nil]; exact HS0.out, by rw [List.append_nil]; exact HT0.out, HTB.out, HD6.out, HQB.out, X0.out⟩
  case round =>
   clear HT0 HS0 HTB HD6 HQB
   obtain ⟨k, l, t, qs, A, n, c, fp, rfl, rfl, rfl, rfl, hk, rfl, hl, hrun, hsq, htm, ht, hq6, hqs, X⟩ := hrel
   clear X0
   obtain ⟨q, hq0⟩ : ∃ q : Nat, q = j + n := ⟨_, rfl⟩
   rw [← hq0] at ht hqs ⊢
   have hq120 : q ≤ 120 := by omega
   have HQ0 := jd hq0
   have HBQ := jd (show (bl ++ l).length = q by rw [List.length_append, HBN.out, hl, hq0])
   clear hq0
   have HR := jd hrun
   have HSL := jd hsq
   have HT := jd htm
   have HQ := jd hqs
   have HL := jd hl
   have HQ6 := jd hq6
   clear hrun hsq htm hqs hl hq6
   by_cases hlt : n < m
   · obtain ⟨r, hr⟩ : ∃ r, m - n = r + 1 := ⟨m - n - 1, by omega⟩
     rw [hr]
     have hr0 : ((r : Int) + 1) > 0 := by omega
     have HRR := jd hr
     have hn20 : n ≤ 59 := by omega
     have HK := jd hlt
     clear hr hlt hk
     go_wp2_with fail
     generalize w.alloc (.cells #[] 35) = w1 at *
     refine (lbelow_any _ _ _ X.cur 4 (by decide)).mono ?_
     rintro e w2 ⟨z, hz, rfl, cu, gr⟩
     replace X := X.draw cu gr
     clear cu gr
     obtain ⟨s, hs⟩ : ∃ s : Nat, 2 + z = (s : Int) := ⟨(2 + z).toNat, by omega⟩
     have hws : IntKind.i64.wrap (2 + z) = (s : Int) := by rw [IntKind.wrap_i64]; omega
     have hs2 : 2 ≤ s ∧ s ≤ 5 := by omega
     have s0 : (0 : Int) ≤ (s : Int) := by omega
     have s1 : (s : Int) < 6 := by omega
     have s2 : s < 6 := by omega
     clear hz hs
     obtain ⟨qv, hqv⟩ : ∃ q, q = qs.getD s 0 := ⟨_, rfl⟩
     have hqb := HQ.out s s2
     rw [← hqv] at hqb
     have hw1 : IntKind.i64.wrap (qv + 1) = qv + 1 := by rw [IntKind.wrap_i64]; omega
     have HQV := jd hqv
     clear hqv
     go_wp2_with fail
     clear hws
     refine wp_region_L (fun v => v.cell? ⟨rt, s, none⟩ = some (.int .i64 qv)) 11 (by kernel_rfl) ?_
     replace X := X.drew
     generalize w2.drew = w3 at *
     have HF : w3.cell? ⟨rt, s, none⟩ = some (.int .i64 qv) := ((X.sep.at_ 1 rfl).cell s).trans ((iA_at (by rw [HQ6.out]; omega)).trans (by rw [← HQV.out]))
     refine tk 0 (v := ?_) rfl rfl HF (.inl ⟨by rfl, ?_⟩) ?_
     rotate_left 1
     · (rintro v a0; go_simp; try with_reducible rfl)
     try simp only [Act.put]
     refine tk 1 (v := ?_) rfl rfl HF (.inl ⟨by rfl, ?_⟩) ?_
     rotate_left 1
     · (rintro v a0; go_simp; try with_reducible rfl)
     try simp only [Act.put]
     refine tk 2 (v := ?_) rfl rfl HF (.inl ⟨by rfl, ?_⟩) ?_
     rotate_left 1
     · (rintro v a0; go_simp; try with_reducible rfl)
     try simp only [Act.put]
     refine tk 3 (v := ?_) rfl rfl HF (.inl ⟨by rfl, ?_⟩) ?_
     rotate_left 1
     · (rintro v a0; go_simp; try with_reducible rfl)
     try simp only [Act.put]
     refine tk 4 (v := ?_) rfl rfl HF (.inl ⟨by rfl, ?_⟩) ?_
     rotate_left 1
     · (rintro v a0; go_simp; try with_reducible rfl)
     try simp only [Act.put]
     refine tk 5 (v := ?_) rfl rfl HF (.inl ⟨by rfl, ?_⟩) ?_
     rotate_left 1
     · (rintro v a0; go_simp; try with_reducible rfl)
     try simp only [Act.put]
     refine tk 6 (v := ?_) rfl rfl HF (.inl ⟨by rfl, ?_⟩) ?_
     rotate_left 1
     · (rintro v a0; go_simp; try with_reducible rfl)
     try simp only [Act.put]
     refine tk 7 (v := ?_) rfl rfl HF (.inl ⟨by rfl, ?_⟩) ?_
     rotate_left 1
     · (rintro v a0; go_simp; try with_reducible rfl)
     try simp only [Act.put]
     refine wpAnyL_step (i := 8) (by kernel_rfl) rfl rfl ?_
     intro K hK
     go_simp
     refine (lbelow_any _ _ _ X.cur 2 (by decide)).mono ?_
     rintro e w4 ⟨d, hd, rfl, cu, gr⟩
     replace X := X.draw cu gr
     clear cu gr
     clear HF
     have HF : w4.cell? ⟨rt, s, none⟩ = some (.int .i64 qv) := ((X.sep.at_ 1 rfl).cell s).trans ((iA_at (by rw [HQ6.out]; omega)).trans (by rw [← HQV.out]))
     refine hK _ _ (fun _ => HF) ?_
     clear hK K
     try simp only [Act.put]
     have hw2 : IntKind.i64.wrap (qv + 1 + d) = qv + 1 + d := by rw [IntKind.wrap_i64]; omega
     refine tk 9 (v := ?_) rfl rfl HF (.inl ⟨by rfl, ?_⟩) ?_
     rotate_left 1
     · (rintro v a0; go_simp; try with_reducible rfl)
     try simp only [Act.put]
     refine tk 10 (v := ?_) rfl rfl HF (.inl ⟨by rfl, ?_⟩) ?_
     rotate_left 1
     · (rintro v a0; go_simp; try with_reducible rfl)
     try simp only [Act.put]
     have t1 := (X.sep.at_ 1 rfl).free s
     have t2 : w4.cell? ⟨rt, s, none⟩ = some (.int .i64 qv) := HF
     refine wpAnyL_step (i := 11) (by kernel_rfl) rfl rfl ?_
     intro K hK
     go_simp
     refine hK _ _ (fun h => nomatch (show true = false from h)) ?_
     clear hK K
     try simp only [Act.put]
     refine wpAnyL_done (by kernel_rfl) ?_ _
     try rw [hw2]
     replace X := X.put 1 rfl s (.int .i64 (qv + 1 + d))
     replace X : DrL w _ B p [_, .blk rt ((iA qs).setIfInBounds s (.int .i64 (qv + 1 + d))) 2] := X
     rw [iA_set] at X
     generalize w4.setCell ⟨rt, s, none⟩ (.int .i64 (qv + 1 + d)) = w5 at *
     clear HF t1 t2
     have hx1 : IntKind.i64.wrap ((q : Int) + 1) = (q : Int) + 1 := by rw [IntKind.wrap_i64]; omega
     go_wp2_with fail
     refine (lbelow_any _ _ _ X.cur 6 (by decide)).mono ?_
     rintro e w6 ⟨f, hf, rfl, cu, gr⟩
     replace X := X.draw cu gr
     clear cu gr
     have hx2 : IntKind.i64.wrap (t + f) = t + f := by rw [IntKind.wrap_i64]; omega
     have HSQ := jd (show (qs.set s (qv + 1 + d)).getD s 0 = qv + 1 + d by simp [List.getD, HQ6.out, s2])
     go_wp2_with fail
     refine wp_region_L (fun v => v.cell? ⟨rt, s, none⟩ = some (.int .i64 (qv + 1 + d))) 13 (by kernel_rfl) ?_
     replace X := X.drew
     generalize w6.drew = w7 at *
     have HF : w7.cell? ⟨rt, s, none⟩ = some (.int .i64 (qv + 1 + d)) := ((X.sep.at_ 1 rfl).cell s).trans ((iA_at (by rw [List.length_set, HQ6.out]; omega)).trans (by rw [HSQ.out]))
     refine tk 0 (v := ?_) rfl rfl HF (.inl ⟨by rfl, ?_⟩) ?_
     rotate_left 1
     · (rintro v a0; go_simp; try with_reducible rfl)
     try simp only [Act.put]
     refine tk 1 (v := ?_) rfl rfl HF (.inl ⟨by rfl, ?_⟩) ?_
     rotate_left 1
     · (rintro v a0; go_simp; try with_reducible rfl)
     try simp only [Act.put]
     refine tk 2 (v := ?_) rfl rfl HF (.inl ⟨by rfl, ?_⟩) ?_
     rotate_left 1
     · (rintro v a0; go_simp; try with_reducible rfl)
     try simp only [Act.put]
     refine tk 3 (v := ?_) rfl rfl HF (.inl ⟨by rfl, ?_⟩) ?_
     rotate_left 1
     · (rintro v a0; go_simp; try with_reducible rfl)
     try simp only [Act.put]
     refine tk 4 (v := ?_) rfl rfl HF (.inl ⟨by rfl, ?_⟩) ?_
     rotate_left 1
     · (rintro v a0; go_simp; try with_reducible rfl)
     try simp only [Act.put]
     refine tk 5 (v := ?_) rfl rfl HF (.inl ⟨by rfl, ?_⟩) ?_
     rotate_left 1
     · (rintro v a0; go_simp; try with_reducible rfl)
     try simp only [Act.put]
     refine tk 6 (v := ?_) rfl rfl HF (.inl ⟨by rfl, ?_⟩) ?_
     rotate_left 1
     · (rintro v a0; go_simp; try with_reducible rfl)
     try simp only [Act.put]
     refine tk 7 (v := ?_) rfl rfl HF (.inl ⟨by rfl, ?_⟩) ?_
     rotate_left 1
     · (rintro v a0; go_simp; try with_reducible rfl)
     try simp only [Act.put]
     refine tk 8 (v := ?_) rfl rfl HF (.inl ⟨by rfl, ?_⟩) ?_
     rotate_left 1
     · (rintro v a0; go_simp; try with_reducible rfl)
     try simp only [Act.put]
     refine wpAnyL_step (i := 9) (by kernel_rfl) rfl rfl ?_
     intro K hK
     go_simp
     refine (w9op_any _ _ _ X.cur).mono ?_
     rintro e w8 ⟨y4, y5, y6, y7, y8, hop, rfl, cu, gr⟩
     replace X := X.draw cu gr
     clear cu gr
     clear HF
     have HF : w8.cell? ⟨rt, s, none⟩ = some (.int .i64 (qv + 1 + d)) := ((X.sep.at_ 1 rfl).cell s).trans ((iA_at (by rw [List.length_set, HQ6.out]; omega)).trans (by rw [HSQ.out]))
     refine hK _ _ (fun _ => HF) ?_
     clear hK K
     try simp only [Act.put]
     refine tk 10 (v := ?_) rfl rfl HF (.inl ⟨by rfl, ?_⟩) ?_
     rotate_left 1
     · (rintro v a0; go_simp; try with_reducible rfl)
     try simp only [Act.put]
     refine wpAnyL_step (i := 11) (by kernel_rfl) rfl rfl ?_
     intro K hK
     go_simp
     replace X := X.boxAt (w8.heap.size) rfl #[.int .i64 ((q : Int) + 1), .int .i64 (t + f), .int .i64 (s : Int), .int .i64 (qv + 1 + d), .int .i64 y4, .int .i64 y5, .int .i64 y6, .int .i64 y7, .int .i64 y8] 35
     clear HF
     have HF : (w8.alloc (.cells #[.int .i64 ((q : Int) + 1), .int .i64 (t + f), .int .i64 (s : Int), .int .i64 (qv + 1 + d), .int .i64 y4, .int .i64 y5, .int .i64 y6, .int .i64 y7, .int .i64 y8] 35)).cell? ⟨rt, s, none⟩ = some (.int .i64 (qv + 1 + d)) := ((X.sep.at_ 2 rfl).cell s).trans ((iA_at (by rw [List.length_set, HQ6.out]; omega)).trans (by rw [HSQ.out]))
     refine hK _ _ (fun _ => HF) ?_
     clear hK K
     try simp only [Act.put]
     generalize hw : w8.alloc (.cells #[.int .i64 ((q : Int) + 1), .int .i64 (t + f), .int .i64 (s : Int), .int .i64 (qv + 1 + d), .int .i64 y4, .int .i64 y5, .int .i64 y6, .int .i64 y7, .int .i64 y8] 35) = w9 at *
     clear hw
     have HC : ∀ i, i < 9 → w9.cell? ⟨w8.heap.size, i, none⟩ = [Value.int .i64 ((q : Int) + 1), Value.int .i64 (t + f), Value.int .i64 (s : Int), Value.int .i64 (qv + 1 + d), Value.int .i64 y4, Value.int .i64 y5, Value.int .i64 y6, Value.int .i64 y7, Value.int .i64 y8][i]? := fun i hi => by
      have h1 := (X.sep.at_ 0 rfl).cell i
      rw [h1]
      simp
     replace X := X.with_ ((X.sep.tail).own0 (ds := entC ⟨(q : Int) + 1, t + f, (s : Int), qv + 1 + d, y4, y5, y6, y7, y8⟩) (vs := [.int .i64 ((q : Int) + 1), .int .i64 (t + f), .int .i64 (s : Int), .int .i64 (qv + 1 + d), .int .i64 y4, .int .i64 y5, .int .i64 y6, .int .i64 y7, .int .i64 y8]) (.int (.int (.int (.int (.int (.int (.int (.int (.int (.nil)))))))))))
     replace X := X.with_ X.sep.swap
     refine wpAnyL_step (i := 12) (by kernel_rfl) rfl rfl ?_
     intro K hK
     refine wp_append_elem (l := l) (y := (⟨(q : Int) + 1, t + f, (s : Int), qv + 1 + d, y4, y5, y6, y7, y8⟩ : EntM)) _ _ (by rfl) Try.underlying27 infoEntry (by rfl) (by decide) entC_len (by rfl) (X.sep.own_ 0 rfl) (X.sep.nodup_own 0 rfl) (by rfl) HC (X.sep.own_ 1 rfl) (X.sep.nodup_own 1 rfl) X.sep.apart (by omega) (by omega) ?_
     intro A3 c3 w10 fp3 o3 n3 s3 t3
     replace X := X.grew t3 o3 n3 s3
     clear o3 n3 s3 t3 HC
     clear HF
     have HF : w10.cell? ⟨rt, s, none⟩ = some (.int .i64 (qv + 1 + d)) := ((X.sep.at_ 1 rfl).cell s).trans ((iA_at (by rw [List.length_set, HQ6.out]; omega)).trans (by rw [HSQ.out]))
     refine hK _ _ (fun _ => HF) ?_
     clear hK K
     try simp only [Act.put]
     refine wpAnyL_step (i := 13) (by kernel_rfl) rfl rfl ?_
     intro K hK
     go_simp
     refine hK _ _ (fun h => nomatch (show true = false from h)) ?_
     clear hK K
     try simp only [Act.put]
     refine wpAnyL_done (by kernel_rfl) ?_ _
     have HRUN0 := jd (HR.out.snoc (e := ⟨(q : Int) + 1, t + f, (s : Int), qv + 1 + d, y4, y5, y6, y7, y8⟩) ((entB_iff _).2 ⟨by simp only; omega, by simp only; omega, by simp only; omega, by simp only; omega, hop⟩) (by simp only; rw [HBQ.out]) (fun x hx => by have := HT.out x hx; simp only; omega) (by simp only; rw [HBQ.out]; omega) (fun x hx hc => by have h9 := HSL.out x hx; rw [hc] at h9; simp only [Int.toNat_natCast] at h9; rw [← HQV.out] at h9; simp only; omega) (by simp only; rw [HBQ.out]; omega))
     have HRUN := jd (show RunT (bl ++ (l ++ [(⟨(q : Int) + 1, t + f, (s : Int), qv + 1 + d, y4, y5, y6, y7, y8⟩ : EntM)])) by rw [← List.append_assoc]; exact HRUN0.out)
     clear HRUN0
     have HSN := jd (show ∀ x ∈ bl ++ (l ++ [(⟨(q : Int) + 1, t + f, (s : Int), qv + 1 + d, y4, y5, y6, y7, y8⟩ : EntM)]), x.sq ≤ (qs.set s (qv + 1 + d)).getD x.cl.toNat 0 from fun x hx => by
      rw [← List.append_assoc] at hx
      rcases List.mem_append.1 hx with h9 | h9
      · have h8 := HSL.out x h9
        by_cases e : x.cl.toNat = s
        · rw [e] at h8 ⊢; rw [HSQ.out]; rw [← HQV.out] at h8; omega
        · rw [show (qs.set s (qv + 1 + d)).getD x.cl.toNat 0 = qs.getD x.cl.toNat 0 by simp [List.getD, Ne.symm e]]; exact h8
      · rw [List.mem_singleton.1 h9]
        simp only [Int.toNat_natCast]
        rw [HSQ.out]
        exact Int.le_refl _)
     have HTM := jd (show ∀ x ∈ bl ++ (l ++ [(⟨(q : Int) + 1, t + f, (s : Int), qv + 1 + d, y4, y5, y6, y7, y8⟩ : EntM)]), x.tm ≤ t + f from fun x hx => by
      rw [← List.append_assoc] at hx
      rcases List.mem_append.1 hx with h9 | h9
      · have := HT.out x h9; omega
      · rw [List.mem_singleton.1 h9]; exact Int.le_refl _)
     have HQS := jd (show ∀ i, i < 6 → 0 ≤ (qs.set s (qv + 1 + d)).getD i 0 ∧ (qs.set s (qv + 1 + d)).getD i 0 ≤ 2 * ((j + (n + 1) : Nat) : Int) from fun i hi => by
      by_cases e : i = s
      · subst e; rw [HSQ.out]; have := HQ0.out; omega
      · have h9 := HQ.out i hi
        rw [show (qs.set s (qv + 1 + d)).getD i 0 = qs.getD i 0 by simp [List.getD, Ne.symm e]]; have := HQ0.out; omega)
     have HLL := jd (show (l ++ [(⟨(q : Int) + 1, t + f, (s : Int), qv + 1 + d, y4, y5, y6, y7, y8⟩ : EntM)]).length = n + 1 by rw [List.length_append, HL.out]; rfl)
     have HLQ := jd (show (qs.set s (qv + 1 + d)).length = 6 by rw [List.length_set]; exact HQ6.out)
     have X1 := jd X
     have hr20 : r ≤ 60 := by have := HRR.out; omega
     have hrr : IntKind.i64.wrap ((r : Int) + 1 - 1) = (r : Int) := by rw [IntKind.wrap_i64]; omega
     clear X HF
     go_wp2
     go_roundw
     case rel =>
      first
       | exact ⟨n + 1, l ++ [(⟨(q : Int) + 1, t + f, (s : Int), qv + 1 + d, y4, y5, y6, y7, y8⟩ : EntM)], t + f, qs.set s (qv + 1 + d), A3, n + 1, c3, fp3, by rw [show m - (n + 1) = r by have := HRR.out; omega], rfl, by rw [show ((j + (n + 1) : Nat) : Int) = (q : Int) + 1 by have := HQ0.out; omega], rfl, by have := HK.out; omega, rfl, HLL.out, HRUN.out, HSN.out, HTM.out, by have := HQ0.out; omega, HLQ.out, HQS.out, X1.out⟩
       | (repeat apply Exists.intro
          refine ⟨⟨n + 1, l ++ [(⟨(q : Int) + 1, t + f, (s : Int), qv + 1 + d, y4, y5, y6, y7, y8⟩ : EntM)], t + f, qs.set s (qv + 1 + d), A3, n + 1, c3, fp3, ?_, ?_, ?_, ?_, by have := HK.out; omega, rfl, HLL.out, HRUN.out, HSN.out, HTM.out, by have := HQ0.out; omega, HLQ.out, HQS.out, X1.out⟩, ?_⟩
          rotate_left 4
          · first | rfl | (trace_state; done)
          · rw [show m - (n + 1) = r by have := HRR.out; omega]
          · rfl
          · rw [show ((j + (n + 1) : Nat) : Int) = (q : Int) + 1 by have := HQ0.out; omega]
          · rfl)
     case measure => (have := HRR.out; simp [intOf] <;> omega)
   · obtain rfl : n = m := by omega
     have e0 : n - n = 0 := Nat.sub_self n
     rw [e0]
     have H := jd ((X.sep.sub (.cons_cons _ (List.nil_sublist _))).first)
     have CU := jd X.cur
     have GR := jd X.grown
     clear X hlt hk e0
     go_wp2
     go_ret
     exact ⟨l, _, _, _, HL.out, HR.out, rfl, CU.out, GR.out, H.out⟩
end Go.Proofs.Ytmjifhjhialcbaa
