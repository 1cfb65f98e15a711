/- Parts of my texts: HeadI4. -/
import Derived.Test.YtmjifhjhialcbaaU33
import Derived.Test.YtmjifhjhialcbaaU34
namespace Go.Proofs.Ytmjifhjhialcbaa
set_option maxRecDepth 100000
set_option linter.unusedVariables false
open Go.RowKit
set_option maxHeartbeats 12800000 in
theorem iMarksFrom_any (b off cc : Nat) (d : List Int) (w : World) (hb : b < w.heap.size) (hc : ∀ j, j < 13 → w.cell? ⟨b, off + j, none⟩ = some (.int .i64 (d.getD j 0))) (hcc : 13 ≤ cc) :
    Calls Try.prog 47 #[.slice (some ⟨b, off + 3, none⟩) 8 (cc - 3)] w fun e w' => ∃ (A2 : Option Addr) (n2 c2 : Nat), e = .returned (.slice A2 n2 c2) ∧ Has w' w.heap.size [mrkD (ofMarks d 4)] [.slice A2 n2 c2] ∧ Below w.heap.size w w' := by
 have HCC := jd hc
 have HC9 := jd hcc
 obtain ⟨cx, hcx⟩ : ∃ x, x = cc - 3 := ⟨_, rfl⟩
 have HCX := jd (show cx + 3 = cc by omega)
 rw [← hcx]
 clear hc hcc hcx
 have S := Sep.nil w w.heap.size
 have c := Below.refl w.heap.size w
 replace S := S.own0 (ow_nil_mrksH w)
 have S0 := jd S
 have B0 := jd c
 clear S c
 go_enter Try.func47, Try.ntmps47
 go_wp2
 go_loopw [0, 3, 4] (fun nv sv cv wr => ∃ (j : Nat) (G : Option Addr) (m gc : Nat) (fp : List Nat) (p k x : Nat), j ≤ 4 ∧ cv = .int .i64 (2 + (j : Int)) ∧ sv = .slice G m gc ∧ nv = .slice (some ⟨b, p, none⟩) k x ∧ p = off + (2 * j + 3) ∧ k + 2 * j = 8 ∧ x + (2 * j + 3) = cc ∧ m ≤ j ∧ Sep wr w.heap.size [.own [mrkD (ofMarks d j)] [.slice G m gc] fp] ∧ Below w.heap.size w wr) (fun _ _ cv _ => 6 - (intOf cv).toNat)
 case atStart => exact ⟨0, none, 0, 0, [], off + 3, 8, cx, Nat.zero_le _, rfl, rfl, rfl, rfl, rfl, HCX.out, Nat.le_refl _, S0.out, B0.out⟩
 case round =>
  obtain ⟨j, G, m, gc, fp, p, k, x, hj, rfl, rfl, rfl, hp, hk, hx, hm, S, c⟩ := hrel
  clear S0 B0
  by_cases hlt : j < 4
  case neg =>
   obtain rfl : j = 4 := by omega
   obtain rfl : k = 0 := by omega
   have H := jd S.first
   have CC := jd c
   clear S c hp hk hx hm hj hlt
   go_wp2
   go_ret
   exact ⟨_, _, _, rfl, H.out, CC.out⟩
  case pos =>
   have d0 : decide ((k : Int) ≥ 2) = true := decide_eq_true (by omega)
   have d1 : decide ((2 : Int) ≤ (k : Int)) = true := decide_eq_true (by omega)
   have d2 : decide (2 ≤ k) = true := decide_eq_true (by omega)
   have k0 : (0 : Int) < (k : Int) := by omega
   have k1 : (1 : Int) < (k : Int) := by omega
   have k3 : 0 < k := by omega
   have k4 : 1 < k := by omega
   have k2 : (2 : Int) ≤ (k : Int) := by omega
   have hx2 : ¬ x = 2 := by have := HC9.out; omega
   have kx : k ≤ x := by have := HC9.out; omega
   obtain ⟨u1, hu1⟩ : ∃ x, x = d.getD (2 * j + 3) 0 := ⟨_, rfl⟩
   obtain ⟨u2, hu2⟩ : ∃ x, x = d.getD (2 * j + 4) 0 := ⟨_, rfl⟩
   have t1 := HCC.out (2 * j + 3) (by omega)
   have t2 := HCC.out (2 * j + 4) (by omega)
   rw [← hu1, ← hp] at t1
   rw [← hu2, show off + (2 * j + 4) = p + 1 by omega] at t2
   have HMI := jd (show markIn d j = ⟨2 + (j : Int), u1, u2⟩ by unfold markIn; rw [hu1, hu2])
   have HP := jd hp
   have HK := jd hk
   have HX := jd hx
   have HM := jd hm
   have HLT := jd hlt
   have HB := jd hb
   have m20 : m ≤ 20 := by omega
   clear hp hk hx hm hu1 hu2
   go_wp2_with fail
   refine wp_region_L (fun v => v.cell? ⟨b, p, none⟩ = some (.int .i64 u1) ∧ v.cell? ⟨b, p + 1, none⟩ = some (.int .i64 u2)) 9 (by kernel_rfl) ?_
   replace S := S.keep ((Below.refl _ _).drew)
   replace c := c.drew
   generalize wr.drew = w1 at *
   have HF : w1.cell? ⟨b, p, none⟩ = some (.int .i64 u1) ∧ w1.cell? ⟨b, p + 1, none⟩ = some (.int .i64 u2) := ⟨(c.cell (p := ⟨b, p, none⟩) HB.out).trans t1, (c.cell (p := ⟨b, p + 1, none⟩) HB.out).trans t2⟩
   refine tk 0 (v := ?_) rfl rfl HF (.inl ⟨by rfl, ?_⟩) ?_
   rotate_left 1
   · (rintro v ⟨a0, a1⟩; go_simp; try with_reducible rfl)
   try simp only [Act.put]
   refine tk 1 (v := ?_) rfl rfl HF (.inl ⟨by rfl, ?_⟩) ?_
   rotate_left 1
   · (rintro v ⟨a0, a1⟩; go_simp; try with_reducible rfl)
   try simp only [Act.put]
   refine tk 2 (v := ?_) rfl rfl HF (.inl ⟨by rfl, ?_⟩) ?_
   rotate_left 1
   · (rintro v ⟨a0, a1⟩; go_simp; try with_reducible rfl)
   try simp only [Act.put]
   refine tk 3 (v := ?_) rfl rfl HF (.inl ⟨by rfl, ?_⟩) ?_
   rotate_left 1
   · (rintro v ⟨a0, a1⟩; go_simp; try with_reducible rfl)
   try simp only [Act.put]
   refine tk 4 (v := ?_) rfl rfl HF (.inl ⟨by rfl, ?_⟩) ?_
   rotate_left 1
   · (rintro v ⟨a0, a1⟩; go_simp; try with_reducible rfl)
   try simp only [Act.put]
   refine tk 5 (v := ?_) rfl rfl HF (.inl ⟨by rfl, ?_⟩) ?_
   rotate_left 1
   · (rintro v ⟨a0, a1⟩; go_simp; try with_reducible rfl)
   try simp only [Act.put]
   refine tk 6 (v := ?_) rfl rfl HF (.inl ⟨by rfl, ?_⟩) ?_
   rotate_left 1
   · (rintro v ⟨a0, a1⟩; go_simp; try with_reducible rfl)
   try simp only [Act.put]
   refine tk 7 (v := ?_) rfl rfl HF (.inl ⟨by rfl, ?_⟩) ?_
   rotate_left 1
   · (rintro v ⟨a0, a1⟩; go_simp; try with_reducible rfl)
   try simp only [Act.put]
   refine wpAnyL_step (i := 8) (by kernel_rfl) rfl rfl ?_
   intro K hK
   go_simp
   replace S := S.boxAt c.size (w1.heap.size) rfl #[.int .i64 0, .int .i64 0, .int .i64 0] 76
   replace c := al c S
   clear HF
   have HF : (w1.alloc (.cells #[.int .i64 0, .int .i64 0, .int .i64 0] 76)).cell? ⟨b, p, none⟩ = some (.int .i64 u1) ∧ (w1.alloc (.cells #[.int .i64 0, .int .i64 0, .int .i64 0] 76)).cell? ⟨b, p + 1, none⟩ = some (.int .i64 u2) := ⟨(c.cell (p := ⟨b, p, none⟩) HB.out).trans t1, (c.cell (p := ⟨b, p + 1, none⟩) HB.out).trans t2⟩
   refine hK _ _ (fun _ => HF) ?_
   clear hK K
   try simp only [Act.put]
   generalize hw : w1.alloc (.cells #[.int .i64 0, .int .i64 0, .int .i64 0] 76) = w2 at *
   clear hw
   obtain ⟨qm, hqm⟩ : ∃ q, q = w1.heap.size := ⟨_, rfl⟩
   rw [← hqm] at S ⊢
   clear hqm
   have f0 := lk S 0 0 rfl rfl
   have f1 := (S.at_ 0 rfl).free 0
   have f2 := lk S 0 1 rfl rfl
   have f3 := (S.at_ 0 rfl).free 1
   have f4 := lk S 0 2 rfl rfl
   have f5 := (S.at_ 0 rfl).free 2
   refine wpAnyL_step (i := 9) (by kernel_rfl) rfl rfl ?_
   intro K hK
   go_simp
   refine hK _ _ (fun h => nomatch (show true = false from h)) ?_
   clear hK K
   try simp only [Act.put]
   refine wpAnyL_done (by kernel_rfl) ?_ _
   replace S := S.put 0 rfl 0 (.int .i64 (2 + (j : Int)))
   replace c := st c S (S.base_le 0 rfl)
   replace S := S.put 0 rfl 1 (.int .i64 u1)
   replace c := st c S (S.base_le 0 rfl)
   replace S := S.put 0 rfl 2 (.int .i64 u2)
   replace c := st c S (S.base_le 0 rfl)
   clear HF
   generalize ((w2.setCell ⟨qm, 0, none⟩ (.int .i64 (2 + (j : Int)))).setCell ⟨qm, 1, none⟩ (.int .i64 u1)).setCell ⟨qm, 2, none⟩ (.int .i64 u2) = w3 at *
   clear f0 f1 f2 f3 f4 f5
   clear t1 t2
   by_cases hz : u1 = 0 ∧ u2 = 0
   case pos =>
    have e1 : (u1 != 0) = false := by simpa using hz.1
    have e2 : (u2 != 0) = false := by simpa using hz.2
    have e3 : (u1 == 0) = true := by simpa using hz.1
    have e4 : (u2 == 0) = true := by simpa using hz.2
    have HN := jd (ofMarks_no (r := d) (k := j) (by rw [HMI.out]; exact hz))
    clear hz
    have f6 := lk S 0 0 rfl rfl
    have f7 := lk S 0 1 rfl rfl
    have f8 := lk S 0 2 rfl rfl
    go_wp2_with fail
    have S2 := S.tail
    rw [← HN.out] at S2
    have SS := jd S2
    have CC := jd c
    clear S S2 c
    go_roundw
    case rel => exact ⟨j + 1, G, m, gc, fp, p + 2, k - 2, x - 2, (by have := HLT.out; omega), by go_num, rfl, rfl, by have := HP.out; omega, by have := HK.out; have := HLT.out; omega, by have := HX.out; have := HK.out; have := HLT.out; have := HC9.out; omega, by have := HM.out; omega, SS.out, CC.out⟩
    case measure => have := HLT.out; simp [intOf] <;> omega
   case neg =>
    have HN := jd (ofMarks_yes (r := d) (k := j) (by rw [HMI.out]; show u1 ≠ 0 ∨ u2 ≠ 0; omega))
    rw [HMI.out] at HN
    have hgs : ((u1 != 0) = true) ∨ ((u1 != 0) = false ∧ (u2 != 0) = true) := by simp only [bne_iff_ne, ne_eq, bne_eq_false_iff_eq]; omega
    have hgs2 : ((u1 == 0) = !(u1 != 0)) := by simp [bne]
    have hgs3 : ((u2 == 0) = !(u2 != 0)) := by simp [bne]
    clear hz
    rcases hgs with e1 | ⟨e1, e2⟩
    · rw [e1] at hgs2
      clear hgs3
      have f6 := lk S 0 0 rfl rfl
      have f7 := lk S 0 1 rfl rfl
      have f8 := lk S 0 2 rfl rfl
      replace S := S.pick 1 rfl
      replace S := S.boxAt c.size (w3.heap.size) rfl #[.int .i64 (2 + (j : Int)), .int .i64 u1, .int .i64 u2] 76
      replace c := al c S
      have HC : ∀ i, i < 3 → (w3.alloc (.cells #[.int .i64 (2 + (j : Int)), .int .i64 u1, .int .i64 u2] 76)).cell? ⟨w3.heap.size, i, none⟩ = [Value.int .i64 (2 + (j : Int)), Value.int .i64 u1, Value.int .i64 u2][i]? := fun i hi => by
       have h1 := (S.at_ 0 rfl).cell i
       rw [h1]
       simp
      replace S := (S.tail).own0 (ds := mrkC ⟨2 + (j : Int), u1, u2⟩) (vs := [.int .i64 (2 + (j : Int)), .int .i64 u1, .int .i64 u2]) (.int (.int (.int .nil)))
      replace S := S.swap
      have hgc := jd c
      go_wp2_with (first
       | (at_builtin
          refine wpList_append_elem (l := ofMarks d j) (y := ⟨2 + (j : Int), u1, u2⟩) rfl (.tmp 27) (.tmp 29) (by rfl) Try.underlying38 infoMark (by rfl) (by decide) mrkC_len (by rfl) (S.own_ 0 rfl) (S.nodup_own 0 rfl) (by rfl) HC (S.own_ 1 rfl) (S.nodup_own 1 rfl) S.apart (by omega) (by omega) ?_
          intro A3 c3 v3 fp3 o3 n3 s3 t3
          have S3 := jd (S.merge t3 o3 n3 s3 hgc.out.size)
          have C3 := jd (hgc.out.trans (S.below 0 rfl t3 hgc.out.size))
          clear S c o3 n3 s3 t3 HC hgc))
      have S4 := S3.out.sub (.cons_cons _ (List.nil_sublist _))
      rw [← HN.out] at S4
      have SS := jd S4
      clear S4
      go_roundw
      case rel => exact ⟨j + 1, A3, m + 1, c3, fp3, p + 2, k - 2, x - 2, (by have := HLT.out; omega), by go_num, rfl, rfl, by have := HP.out; omega, by have := HK.out; have := HLT.out; omega, by have := HX.out; have := HK.out; have := HLT.out; have := HC9.out; omega, by have := HM.out; omega, SS.out, C3.out⟩
      case measure => have := HLT.out; simp [intOf] <;> omega
    · rw [e1] at hgs2
      rw [e2] at hgs3
      have f6 := lk S 0 0 rfl rfl
      have f7 := lk S 0 1 rfl rfl
      have f8 := lk S 0 2 rfl rfl
      replace S := S.pick 1 rfl
      replace S := S.boxAt c.size (w3.heap.size) rfl #[.int .i64 (2 + (j : Int)), .int .i64 u1, .int .i64 u2] 76
      replace c := al c S
      have HC : ∀ i, i < 3 → (w3.alloc (.cells #[.int .i64 (2 + (j : Int)), .int .i64 u1, .int .i64 u2] 76)).cell? ⟨w3.heap.size, i, none⟩ = [Value.int .i64 (2 + (j : Int)), Value.int .i64 u1, Value.int .i64 u2][i]? := fun i hi => by
       have h1 := (S.at_ 0 rfl).cell i
       rw [h1]
       simp
      replace S := (S.tail).own0 (ds := mrkC ⟨2 + (j : Int), u1, u2⟩) (vs := [.int .i64 (2 + (j : Int)), .int .i64 u1, .int .i64 u2]) (.int (.int (.int .nil)))
      replace S := S.swap
      have hgc := jd c
      go_wp2_with (first
       | (at_builtin
          refine wpList_append_elem (l := ofMarks d j) (y := ⟨2 + (j : Int), u1, u2⟩) rfl (.tmp 27) (.tmp 29) (by rfl) Try.underlying38 infoMark (by rfl) (by decide) mrkC_len (by rfl) (S.own_ 0 rfl) (S.nodup_own 0 rfl) (by rfl) HC (S.own_ 1 rfl) (S.nodup_own 1 rfl) S.apart (by omega) (by omega) ?_
          intro A3 c3 v3 fp3 o3 n3 s3 t3
          have S3 := jd (S.merge t3 o3 n3 s3 hgc.out.size)
          have C3 := jd (hgc.out.trans (S.below 0 rfl t3 hgc.out.size))
          clear S c o3 n3 s3 t3 HC hgc))
      have S4 := S3.out.sub (.cons_cons _ (List.nil_sublist _))
      rw [← HN.out] at S4
      have SS := jd S4
      clear S4
      go_roundw
      case rel => exact ⟨j + 1, A3, m + 1, c3, fp3, p + 2, k - 2, x - 2, (by have := HLT.out; omega), by go_num, rfl, rfl, by have := HP.out; omega, by have := HK.out; have := HLT.out; omega, by have := HX.out; have := HK.out; have := HLT.out; have := HC9.out; omega, by have := HM.out; omega, SS.out, C3.out⟩
      case measure => have := HLT.out; simp [intOf] <;> omega
theorem iRowEnt_rd (A : Option Addr) (n c : Nat) (d0 : List Int) (w : World) (h : Rd w w.heap.size (rowCells d0) [.slice A n c]) :
    Calls Try.prog 45 #[.slice A n c] w fun e w' => e = .returned (.tuple #[.agg #[.int .i64 (rowEntM d0).1.idx, .int .i64 (rowEntM d0).1.tm, .int .i64 (rowEntM d0).1.cl, .int .i64 (rowEntM d0).1.sq, .int .i64 (rowEntM d0).1.kd, .int .i64 (rowEntM d0).1.oa, .int .i64 (rowEntM d0).1.ob, .int .i64 (rowEntM d0).1.oc, .int .i64 (rowEntM d0).1.od], .bool (rowEntM d0).2]) ∧ Below w.heap.size w w' := by
 obtain ⟨_, _, _, e, hi, hnc, hcm⟩ := h.irow
 injection e with e1 e2 e3
 subst e1 e2 e3
 exact iRowEnt_any A n c w.heap.size d0 w hi (Nat.le_refl _) (Nat.le_trans hnc hcm) hnc
set_option maxHeartbeats 12800000 in
theorem iRowSlot_any (A : Option Addr) (n cc B : Nat) (d : List Int) (w : World) (h : Rd w B (rowCells d) [.slice A n cc]) (hB : B ≤ w.heap.size) :
    Calls Try.prog 20 #[.slice A n cc] w fun e w' => e = .returned (.tuple #[.agg #[.int .i64 (rowSlotM d).1.idx, .int .i64 (rowSlotM d).1.tm, .int .i64 (rowSlotM d).1.cl, .int .i64 (rowSlotM d).1.sq, .int .i64 (rowSlotM d).1.kd, .int .i64 (rowSlotM d).1.oa, .int .i64 (rowSlotM d).1.ob, .int .i64 (rowSlotM d).1.oc, .int .i64 (rowSlotM d).1.od], .bool (rowSlotM d).2]) ∧ Below w.heap.size w w' := by
 have HH := jd h
 obtain ⟨_, _, _, e, hi, hnc, hcm⟩ := h.irow
 injection e with e1 e2 e3
 subst e1 e2 e3
 have hm := Nat.le_trans hnc hcm
 unfold maxLen at hm
 have HL := jd hi.1
 clear h
 have S := Sep.nil w w.heap.size
 have c := Below.refl w.heap.size w
 replace S := S.boxAt c.size (w.heap.size) rfl #[.int .i64 0, .int .i64 0, .int .i64 0, .int .i64 0, .int .i64 0, .int .i64 0, .int .i64 0, .int .i64 0, .int .i64 0] 35
 replace c := al c S
 by_cases hn : n = 11
 case neg =>
  have e1 : ((n : Int) != 11) = true := by simp; omega
  have e2 : ((n : Int) == 11) = false := by simp; omega
  have HV := jd (rowSlot_len (r := d) (by have := HL.out; omega))
  clear hi hn
  go_enter Try.func20, Try.ntmps20
  have r0 := jd ((S.at_ 0 rfl).cell 0)
  have r1 := jd ((S.at_ 0 rfl).cell 1)
  have r2 := jd ((S.at_ 0 rfl).cell 2)
  have r3 := jd ((S.at_ 0 rfl).cell 3)
  have r4 := jd ((S.at_ 0 rfl).cell 4)
  have r5 := jd ((S.at_ 0 rfl).cell 5)
  have r6 := jd ((S.at_ 0 rfl).cell 6)
  have r7 := jd ((S.at_ 0 rfl).cell 7)
  have r8 := jd ((S.at_ 0 rfl).cell 8)
  have CC := jd c
  clear S c
  go_wp2
  exact bodyPost_ret (v := .tuple #[.agg #[.int .i64 0, .int .i64 0, .int .i64 0, .int .i64 0, .int .i64 0, .int .i64 0, .int .i64 0, .int .i64 0, .int .i64 0], .bool false]) (by simp [results, Try.results20, go_sem, r0.out, r1.out, r2.out, r3.out, r4.out, r5.out, r6.out, r7.out, r8.out]) rfl ⟨by first | (rw [HV.out]; done) | (rw [HV.out]; rfl), CC.out⟩
 case pos =>
  subst hn
  obtain ⟨b, off, rfl, hb, hc⟩ := hi.2 (by omega)
  have HRS := jd (rowSlot_same (r := d) HL.out)
  have hc9 : ¬ cc < 9 := by omega
  have hc9' : (9 : Int) ≤ (cc : Int) := by omega
  clear hi hc
  go_enter Try.func20, Try.ntmps20
  go_wp2_with fail
  generalize w.alloc (.cells #[.int .i64 0, .int .i64 0, .int .i64 0, .int .i64 0, .int .i64 0, .int .i64 0, .int .i64 0, .int .i64 0, .int .i64 0] 35) = w1 at *
  have hr9 := rd_take (HH.out.keep (c.mono hB)) (show 9 ≤ 11 by decide)
  refine (iRowEnt_rd (some ⟨b, off, none⟩) 9 cc (d.take 9) _ (hr9.up (Nat.le_trans hB c.size))).mono ?_
  rintro e w2 ⟨rfl, b2⟩
  replace c := c.trans (b2.mono c.size)
  replace S := S.keep b2
  clear b2
  clear hr9
  obtain ⟨z0, hz0⟩ : ∃ y, y = (rowEntM (d.take 9)).1.idx := ⟨_, rfl⟩
  obtain ⟨z1, hz1⟩ : ∃ y, y = (rowEntM (d.take 9)).1.tm := ⟨_, rfl⟩
  obtain ⟨z2, hz2⟩ : ∃ y, y = (rowEntM (d.take 9)).1.cl := ⟨_, rfl⟩
  obtain ⟨z3, hz3⟩ : ∃ y, y = (rowEntM (d.take 9)).1.sq := ⟨_, rfl⟩
  obtain ⟨z4, hz4⟩ : ∃ y, y = (rowEntM (d.take 9)).1.kd := ⟨_, rfl⟩
  obtain ⟨z5, hz5⟩ : ∃ y, y = (rowEntM (d.take 9)).1.oa := ⟨_, rfl⟩
  obtain ⟨z6, hz6⟩ : ∃ y, y = (rowEntM (d.take 9)).1.ob := ⟨_, rfl⟩
  obtain ⟨z7, hz7⟩ : ∃ y, y = (rowEntM (d.take 9)).1.oc := ⟨_, rfl⟩
  obtain ⟨z8, hz8⟩ : ∃ y, y = (rowEntM (d.take 9)).1.od := ⟨_, rfl⟩
  obtain ⟨zz, hzz⟩ : ∃ y, y = (rowEntM (d.take 9)).2 := ⟨_, rfl⟩
  have hmk : (rowEntM (d.take 9)).1 = ⟨z0, z1, z2, z3, z4, z5, z6, z7, z8⟩ := by rw [hz0, hz1, hz2, hz3, hz4, hz5, hz6, hz7, hz8]
  rw [hmk, ← hzz] at HRS
  rw [← hz0, ← hz1, ← hz2, ← hz3, ← hz4, ← hz5, ← hz6, ← hz7, ← hz8, ← hzz]
  clear hmk hzz hz0 hz1 hz2 hz3 hz4 hz5 hz6 hz7 hz8
  replace S := S.boxAt c.size (w2.heap.size) rfl #[.int .i64 z0, .int .i64 z1, .int .i64 z2, .int .i64 z3, .int .i64 z4, .int .i64 z5, .int .i64 z6, .int .i64 z7, .int .i64 z8] 35
  replace c := al c S
  cases zz
  case false =>
   have HV := jd (show rowSlotM d = (ent0, false) by rw [HRS.out]; exact if_neg (fun h9 => by cases h9.1))
   clear HRS
   have f0 := lk S 1 0 rfl rfl
   have f1 := (S.at_ 1 rfl).free 0
   have f2 := lk S 1 1 rfl rfl
   have f3 := (S.at_ 1 rfl).free 1
   have f4 := lk S 1 2 rfl rfl
   have f5 := (S.at_ 1 rfl).free 2
   have f6 := lk S 1 3 rfl rfl
   have f7 := (S.at_ 1 rfl).free 3
   have f8 := lk S 1 4 rfl rfl
   have f9 := (S.at_ 1 rfl).free 4
   have f10 := lk S 1 5 rfl rfl
   have f11 := (S.at_ 1 rfl).free 5
   have f12 := lk S 1 6 rfl rfl
   have f13 := (S.at_ 1 rfl).free 6
   have f14 := lk S 1 7 rfl rfl
   have f15 := (S.at_ 1 rfl).free 7
   have f16 := lk S 1 8 rfl rfl
   have f17 := (S.at_ 1 rfl).free 8
   replace S := S.put 1 rfl 0 (.int .i64 0)
   replace c := st c S (by omega)
   replace S := S.put 1 rfl 1 (.int .i64 0)
   replace c := st c S (by omega)
   replace S := S.put 1 rfl 2 (.int .i64 0)
   replace c := st c S (by omega)
   replace S := S.put 1 rfl 3 (.int .i64 0)
   replace c := st c S (by omega)
   replace S := S.put 1 rfl 4 (.int .i64 0)
   replace c := st c S (by omega)
   replace S := S.put 1 rfl 5 (.int .i64 0)
   replace c := st c S (by omega)
   replace S := S.put 1 rfl 6 (.int .i64 0)
   replace c := st c S (by omega)
   replace S := S.put 1 rfl 7 (.int .i64 0)
   replace c := st c S (by omega)
   replace S := S.put 1 rfl 8 (.int .i64 0)
   replace c := st c S (by omega)
   have r0 := jd ((S.at_ 1 rfl).cell 0)
   have r1 := jd ((S.at_ 1 rfl).cell 1)
   have r2 := jd ((S.at_ 1 rfl).cell 2)
   have r3 := jd ((S.at_ 1 rfl).cell 3)
   have r4 := jd ((S.at_ 1 rfl).cell 4)
   have r5 := jd ((S.at_ 1 rfl).cell 5)
   have r6 := jd ((S.at_ 1 rfl).cell 6)
   have r7 := jd ((S.at_ 1 rfl).cell 7)
   have r8 := jd ((S.at_ 1 rfl).cell 8)
   have CC := jd c
   clear S c
   go_wp2
   exact bodyPost_ret (v := .tuple #[.agg #[.int .i64 0, .int .i64 0, .int .i64 0, .int .i64 0, .int .i64 0, .int .i64 0, .int .i64 0, .int .i64 0, .int .i64 0], .bool false]) (by simp [results, Try.results20, go_sem, r0.out, r1.out, r2.out, r3.out, r4.out, r5.out, r6.out, r7.out, r8.out]) rfl ⟨by first | (rw [HV.out]; done) | (rw [HV.out]; rfl), CC.out⟩
  case true =>
   have f0 := lk S 0 0 rfl rfl
   have f1 := lk S 0 1 rfl rfl
   have f2 := lk S 0 2 rfl rfl
   have f3 := lk S 0 3 rfl rfl
   have f4 := lk S 0 4 rfl rfl
   have f5 := lk S 0 5 rfl rfl
   have f6 := lk S 0 6 rfl rfl
   have f7 := lk S 0 7 rfl rfl
   have f8 := lk S 0 8 rfl rfl
   go_wp2_with fail
   generalize w2.alloc (.cells #[.int .i64 z0, .int .i64 z1, .int .i64 z2, .int .i64 z3, .int .i64 z4, .int .i64 z5, .int .i64 z6, .int .i64 z7, .int .i64 z8] 35) = w3 at *
   refine (iSlotRow_any z0 z1 z2 z3 z4 z5 z6 z7 z8 _).mono ?_
   rintro e w4 ⟨A2, n2, c2, rfl, _, o, b⟩
   obtain ⟨fp_u, S'⟩ := S.has b o c.size
   replace c := c.trans (b.mono c.size)
   clear S; have S := S'; clear S' o b f0 f1 f2 f3 f4 f5 f6 f7 f8
   go_wp2_with fail
   refine (iSameD _ _ _ _ _ _ _ _ _ _ _ (S.own_ 0 rfl).rd ((HH.out.keep (c.mono hB)).up (Nat.le_trans hB c.size)) (by have := slotRowM_len ⟨z0, z1, z2, z3, z4, z5, z6, z7, z8⟩; omega) (by have := HL.out; omega)).mono ?_
   rintro e w5 ⟨rfl, b2⟩
   replace c := c.trans (b2.mono c.size)
   replace S := S.keep b2
   clear b2
   cases hsm : sameI (slotRowM ⟨z0, z1, z2, z3, z4, z5, z6, z7, z8⟩) d
   case false =>
    have HV := jd (show rowSlotM d = (ent0, false) by rw [HRS.out]; exact if_neg (fun h9 => by have h8 : sameI (slotRowM ⟨z0, z1, z2, z3, z4, z5, z6, z7, z8⟩) d = true := decide_eq_true h9.2; rw [hsm] at h8; cases h8))
    clear HRS hsm
    have f9 := lk S 2 0 rfl rfl
    have f10 := (S.at_ 2 rfl).free 0
    have f11 := lk S 2 1 rfl rfl
    have f12 := (S.at_ 2 rfl).free 1
    have f13 := lk S 2 2 rfl rfl
    have f14 := (S.at_ 2 rfl).free 2
    have f15 := lk S 2 3 rfl rfl
    have f16 := (S.at_ 2 rfl).free 3
    have f17 := lk S 2 4 rfl rfl
    have f18 := (S.at_ 2 rfl).free 4
    have f19 := lk S 2 5 rfl rfl
    have f20 := (S.at_ 2 rfl).free 5
    have f21 := lk S 2 6 rfl rfl
    have f22 := (S.at_ 2 rfl).free 6
    have f23 := lk S 2 7 rfl rfl
    have f24 := (S.at_ 2 rfl).free 7
    have f25 := lk S 2 8 rfl rfl
    have f26 := (S.at_ 2 rfl).free 8
    replace S := S.put 2 rfl 0 (.int .i64 0)
    replace c := st c S (by omega)
    replace S := S.put 2 rfl 1 (.int .i64 0)
    replace c := st c S (by omega)
    replace S := S.put 2 rfl 2 (.int .i64 0)
    replace c := st c S (by omega)
    replace S := S.put 2 rfl 3 (.int .i64 0)
    replace c := st c S (by omega)
    replace S := S.put 2 rfl 4 (.int .i64 0)
    replace c := st c S (by omega)
    replace S := S.put 2 rfl 5 (.int .i64 0)
    replace c := st c S (by omega)
    replace S := S.put 2 rfl 6 (.int .i64 0)
    replace c := st c S (by omega)
    replace S := S.put 2 rfl 7 (.int .i64 0)
    replace c := st c S (by omega)
    replace S := S.put 2 rfl 8 (.int .i64 0)
    replace c := st c S (by omega)
    have r0 := jd ((S.at_ 2 rfl).cell 0)
    have r1 := jd ((S.at_ 2 rfl).cell 1)
    have r2 := jd ((S.at_ 2 rfl).cell 2)
    have r3 := jd ((S.at_ 2 rfl).cell 3)
    have r4 := jd ((S.at_ 2 rfl).cell 4)
    have r5 := jd ((S.at_ 2 rfl).cell 5)
    have r6 := jd ((S.at_ 2 rfl).cell 6)
    have r7 := jd ((S.at_ 2 rfl).cell 7)
    have r8 := jd ((S.at_ 2 rfl).cell 8)
    have CC := jd c
    clear S c
    go_wp2
    exact bodyPost_ret (v := .tuple #[.agg #[.int .i64 0, .int .i64 0, .int .i64 0, .int .i64 0, .int .i64 0, .int .i64 0, .int .i64 0, .int .i64 0, .int .i64 0], .bool false]) (by simp [results, Try.results20, go_sem, r0.out, r1.out, r2.out, r3.out, r4.out, r5.out, r6.out, r7.out, r8.out]) rfl ⟨by first | (rw [HV.out]; done) | (rw [HV.out]; rfl), CC.out⟩
   case true =>
    have HV := jd (show rowSlotM d = ((⟨z0, z1, z2, z3, z4, z5, z6, z7, z8⟩ : EntM), true) by rw [HRS.out]; exact if_pos (by first | exact ⟨rfl, of_decide_eq_true hsm⟩ | exact ⟨trivial, of_decide_eq_true hsm⟩))
    clear HRS hsm
    have f9 := lk S 1 0 rfl rfl
    have f10 := lk S 1 1 rfl rfl
    have f11 := lk S 1 2 rfl rfl
    have f12 := lk S 1 3 rfl rfl
    have f13 := lk S 1 4 rfl rfl
    have f14 := lk S 1 5 rfl rfl
    have f15 := lk S 1 6 rfl rfl
    have f16 := lk S 1 7 rfl rfl
    have f17 := lk S 1 8 rfl rfl
    have f18 := lk S 2 0 rfl rfl
    have f19 := (S.at_ 2 rfl).free 0
    have f20 := lk S 2 1 rfl rfl
    have f21 := (S.at_ 2 rfl).free 1
    have f22 := lk S 2 2 rfl rfl
    have f23 := (S.at_ 2 rfl).free 2
    have f24 := lk S 2 3 rfl rfl
    have f25 := (S.at_ 2 rfl).free 3
    have f26 := lk S 2 4 rfl rfl
    have f27 := (S.at_ 2 rfl).free 4
    have f28 := lk S 2 5 rfl rfl
    have f29 := (S.at_ 2 rfl).free 5
    have f30 := lk S 2 6 rfl rfl
    have f31 := (S.at_ 2 rfl).free 6
    have f32 := lk S 2 7 rfl rfl
    have f33 := (S.at_ 2 rfl).free 7
    have f34 := lk S 2 8 rfl rfl
    have f35 := (S.at_ 2 rfl).free 8
    replace S := S.put 2 rfl 0 (.int .i64 z0)
    replace c := st c S (by omega)
    replace S := S.put 2 rfl 1 (.int .i64 z1)
    replace c := st c S (by omega)
    replace S := S.put 2 rfl 2 (.int .i64 z2)
    replace c := st c S (by omega)
    replace S := S.put 2 rfl 3 (.int .i64 z3)
    replace c := st c S (by omega)
    replace S := S.put 2 rfl 4 (.int .i64 z4)
    replace c := st c S (by omega)
    replace S := S.put 2 rfl 5 (.int .i64 z5)
    replace c := st c S (by omega)
    replace S := S.put 2 rfl 6 (.int .i64 z6)
    replace c := st c S (by omega)
    replace S := S.put 2 rfl 7 (.int .i64 z7)
    replace c := st c S (by omega)
    replace S := S.put 2 rfl 8 (.int .i64 z8)
    replace c := st c S (by omega)
    have r0 := jd ((S.at_ 2 rfl).cell 0)
    have r1 := jd ((S.at_ 2 rfl).cell 1)
    have r2 := jd ((S.at_ 2 rfl).cell 2)
    have r3 := jd ((S.at_ 2 rfl).cell 3)
    have r4 := jd ((S.at_ 2 rfl).cell 4)
    have r5 := jd ((S.at_ 2 rfl).cell 5)
    have r6 := jd ((S.at_ 2 rfl).cell 6)
    have r7 := jd ((S.at_ 2 rfl).cell 7)
    have r8 := jd ((S.at_ 2 rfl).cell 8)
    have CC := jd c
    clear S c
    go_wp2
    exact bodyPost_ret (v := .tuple #[.agg #[.int .i64 z0, .int .i64 z1, .int .i64 z2, .int .i64 z3, .int .i64 z4, .int .i64 z5, .int .i64 z6, .int .i64 z7, .int .i64 z8], .bool true]) (by simp [results, Try.results20, go_sem, r0.out, r1.out, r2.out, r3.out, r4.out, r5.out, r6.out, r7.out, r8.out]) rfl ⟨by rw [HV.out], CC.out⟩
end Go.Proofs.Ytmjifhjhialcbaa
