/- Parts of my texts: TwoS1. -/
import Derived.Test.YtecihkkagpbkdaaK4
import Derived.Test.YtecihkkagpbkdaaK12
namespace Go.Proofs.Ytecihkkagpbkdaa
set_option maxRecDepth 100000
set_option linter.unusedVariables false
open Go.RowKit
theorem rdKeptLen {w : World} {B : Nat} {d : DiskM} {A : Option Addr} {n c : Nat} {v : Value} (h : Rd w B d.cells [.slice A n c, v]) : d.kept.length = n := by
 obtain ⟨_, _, _, _, _, _, e, _, h1, _⟩ := h.disk
 injection e with e1 e2 e3
 subst e1 e2 e3
 obtain ⟨_, _, _, e, hl, _⟩ := h1.kept
 injection e with e1 e2 e3
 subst e1 e2 e3
 exact hl
theorem has_zeroT (w : World) (base : Nat) : Has w base zeroT.cells [.slice none 0 0, .slice none 0 0, .slice none 0 0, .slice none 0 0] :=
 ⟨[], ((ow_nil_kept w).append (ow_nil_wait w)).append ((ow_nil_kept w).append (ow_nil_wait w)), List.nodup_nil, fun p hp => by cases hp⟩
set_option maxHeartbeats 3200000 in
theorem sTwoOk_any (Aa0 : Option Addr) (na0 ca0 : Nat) (Aa1 : Option Addr) (na1 ca1 : Nat) (Aa2 : Option Addr) (na2 ca2 : Nat) (Aa3 : Option Addr) (na3 ca3 : Nat) (t : TwoM) (B : Nat) (w : World) (h : Rd w B t.cells [.slice Aa0 na0 ca0, .slice Aa1 na1 ca1, .slice Aa2 na2 ca2, .slice Aa3 na3 ca3]) (hB : B ≤ w.heap.size) (hs : t.sz ≤ 1048577) :
    Calls Try.prog 30 #[.agg #[.slice Aa0 na0 ca0, .slice Aa1 na1 ca1, .slice Aa2 na2 ca2, .slice Aa3 na3 ca3]] w fun e w' => e = .returned (.bool (twoOk t)) ∧ Below w.heap.size w w' := by
 obtain ⟨ha, hb⟩ := h.halves
 have hsa : t.a.sz ≤ 1048577 := by unfold TwoM.sz at hs; omega
 have hsb : t.b.sz ≤ 1048577 := by unfold TwoM.sz at hs; omega
 cases hda : diskOk t.a
 case false =>
  have HT := jd (show twoOk t = false from twoOk_no (by simp [hda]))
  have HA := jd hda
  clear hda
  have S := Sep.nil w w.heap.size
  have c := Below.refl w.heap.size w
  replace S := S.boxAt c.size (w.heap.size) rfl #[.slice Aa0 na0 ca0, .slice Aa1 na1 ca1, .slice Aa2 na2 ca2, .slice Aa3 na3 ca3] 34
  replace c := al c S
  go_enter Try.func30, Try.ntmps30
  go_wp2_with fail
  generalize w.alloc (.cells #[.slice Aa0 na0 ca0, .slice Aa1 na1 ca1, .slice Aa2 na2 ca2, .slice Aa3 na3 ca3] 34) = w1 at *
  refine (sDiskOk_any _ _ t.a _ _ (ha.keep (c.mono hB)) (Nat.le_trans hB c.size) hsa).mono ?_
  rintro e w2 ⟨rfl, b⟩
  replace c := c.trans (b.mono c.size)
  replace S := S.keep b
  clear b
  rw [HA.out]
  have C := jd c
  clear S c ha hb h
  go_wp2
  go_ret
  exact ⟨ret_bool HT.out.symm, C.out⟩
 have HA := jd hda
 clear hda
 cases hdb : diskOk t.b
 case false =>
  have HT := jd (show twoOk t = false from twoOk_no (by simp [hdb]))
  have HB := jd hdb
  clear hdb
  have S := Sep.nil w w.heap.size
  have c := Below.refl w.heap.size w
  replace S := S.boxAt c.size (w.heap.size) rfl #[.slice Aa0 na0 ca0, .slice Aa1 na1 ca1, .slice Aa2 na2 ca2, .slice Aa3 na3 ca3] 34
  replace c := al c S
  go_enter Try.func30, Try.ntmps30
  go_wp2_with fail
  generalize w.alloc (.cells #[.slice Aa0 na0 ca0, .slice Aa1 na1 ca1, .slice Aa2 na2 ca2, .slice Aa3 na3 ca3] 34) = w1 at *
  refine (sDiskOk_any _ _ t.a _ _ (ha.keep (c.mono hB)) (Nat.le_trans hB c.size) hsa).mono ?_
  rintro e w2 ⟨rfl, b⟩
  replace c := c.trans (b.mono c.size)
  replace S := S.keep b
  clear b
  rw [HA.out]
  have f0 := lk S 0 2 rfl rfl
  have f1 := lk S 0 3 rfl rfl
  go_wp2_with fail
  refine (sDiskOk_any _ _ t.b _ _ (hb.keep (c.mono hB)) (Nat.le_trans hB c.size) hsb).mono ?_
  rintro e w3 ⟨rfl, b⟩
  replace c := c.trans (b.mono c.size)
  replace S := S.keep b
  clear b f0 f1
  rw [HB.out]
  have C := jd c
  clear S c ha hb h
  go_wp2
  go_ret
  exact ⟨ret_bool HT.out.symm, C.out⟩
 case true =>
  have hl0 := rdKeptLen ha
  have hl2 := rdKeptLen hb
  have hn0 : na0 ≤ 1048577 := by unfold DiskM.sz rowsSz at hsa; omega
  have hn2 : na2 ≤ 1048577 := by unfold DiskM.sz rowsSz at hsb; omega
  have HT := jd (show twoOk t = decide ((na0 : Int) = (na2 : Int)) by
   unfold twoOk
   rw [HA.out, hdb, hl0, hl2]
   simp only [Bool.true_and]
   exact decide_eq_decide.2 (by omega))
  have HB := jd hdb
  clear hdb hl0 hl2
  have S := Sep.nil w w.heap.size
  have c := Below.refl w.heap.size w
  replace S := S.boxAt c.size (w.heap.size) rfl #[.slice Aa0 na0 ca0, .slice Aa1 na1 ca1, .slice Aa2 na2 ca2, .slice Aa3 na3 ca3] 34
  replace c := al c S
  go_enter Try.func30, Try.ntmps30
  go_wp2_with fail
  generalize w.alloc (.cells #[.slice Aa0 na0 ca0, .slice Aa1 na1 ca1, .slice Aa2 na2 ca2, .slice Aa3 na3 ca3] 34) = w1 at *
  refine (sDiskOk_any _ _ t.a _ _ (ha.keep (c.mono hB)) (Nat.le_trans hB c.size) hsa).mono ?_
  rintro e w2 ⟨rfl, b⟩
  replace c := c.trans (b.mono c.size)
  replace S := S.keep b
  clear b
  rw [HA.out]
  have f0 := lk S 0 2 rfl rfl
  have f1 := lk S 0 3 rfl rfl
  go_wp2_with fail
  refine (sDiskOk_any _ _ t.b _ _ (hb.keep (c.mono hB)) (Nat.le_trans hB c.size) hsb).mono ?_
  rintro e w3 ⟨rfl, b⟩
  replace c := c.trans (b.mono c.size)
  replace S := S.keep b
  clear b f0 f1
  rw [HB.out]
  have f2 := lk S 0 0 rfl rfl
  have f3 := lk S 0 2 rfl rfl
  have C := jd c
  clear S c ha hb h
  go_wp2
  go_ret
  exact ⟨ret_bool HT.out.symm, C.out⟩
set_option maxHeartbeats 3200000 in
theorem sNewTwo_any (x : Int) (w : World) : Calls Try.prog 35 #[.int .i64 x] w (MadeT w (newTwo x)) := by
 have S := Sep.nil w w.heap.size
 have c := Below.refl w.heap.size w
 replace S := S.boxAt c.size (w.heap.size) rfl #[.slice none 0 0, .slice none 0 0, .slice none 0 0, .slice none 0 0] 34
 replace c := al c S
 go_enter Try.func35, Try.ntmps35
 go_wp2_with fail
 generalize w.alloc (.cells #[.slice none 0 0, .slice none 0 0, .slice none 0 0, .slice none 0 0] 34) = w1 at *
 refine (sNewDisk_any x _).mono ?_
 rintro e w2 ⟨Au0, nu0, cu0, Au1, nu1, cu1, rfl, o, b⟩
 obtain ⟨fp_u, S'⟩ := S.has b o c.size
 replace c := c.trans (b.mono c.size)
 clear S; have S := S'; clear S' o b
 go_wp2_with fail
 refine (sNewDisk_any x _).mono ?_
 rintro e w3 ⟨Ay0, ny0, cy0, Ay1, ny1, cy1, rfl, o, b⟩
 obtain ⟨fp_y, S'⟩ := S.has b o c.size
 replace c := c.trans (b.mono c.size)
 clear S; have S := S'; clear S' o b
 have f0 := lk S 2 0 rfl rfl
 have f1 := (S.at_ 2 rfl).free 0
 have f2 := lk S 2 1 rfl rfl
 have f3 := (S.at_ 2 rfl).free 1
 have f4 := lk S 2 2 rfl rfl
 have f5 := (S.at_ 2 rfl).free 2
 have f6 := lk S 2 3 rfl rfl
 have f7 := (S.at_ 2 rfl).free 3
 replace S := S.put 2 rfl 0 (.slice Au0 nu0 cu0)
 replace c := st c S (by omega)
 replace S := S.put 2 rfl 1 (.slice Au1 nu1 cu1)
 replace c := st c S (by omega)
 replace S := S.put 2 rfl 2 (.slice Ay0 ny0 cy0)
 replace c := st c S (by omega)
 replace S := S.put 2 rfl 3 (.slice Ay1 ny1 cy1)
 replace c := st c S (by omega)
 have H := jd S.pair
 have C := jd c
 clear S c
 go_wp2
 exact bodyPost_ret (v := .agg #[.slice Au0 nu0 cu0, .slice Au1 nu1 cu1, .slice Ay0 ny0 cy0, .slice Ay1 ny1 cy1]) (by simp [results, Try.results35, go_sem, f0, f2, f4, f6]) rfl ⟨_, _, _, _, _, _, _, _, _, _, _, _, rfl, H.out, C.out⟩
set_option maxHeartbeats 12800000 in
theorem sCopyT_any (Aa0 : Option Addr) (na0 ca0 : Nat) (Aa1 : Option Addr) (na1 ca1 : Nat) (Aa2 : Option Addr) (na2 ca2 : Nat) (Aa3 : Option Addr) (na3 ca3 : Nat) (t : TwoM) (w : World) (h : Rd w w.heap.size t.cells [.slice Aa0 na0 ca0, .slice Aa1 na1 ca1, .slice Aa2 na2 ca2, .slice Aa3 na3 ca3]) (hs : t.sz ≤ 1048576) :
    Calls Try.prog 44 #[.agg #[.slice Aa0 na0 ca0, .slice Aa1 na1 ca1, .slice Aa2 na2 ca2, .slice Aa3 na3 ca3]] w (MadeT w t) := by
 obtain ⟨ha, hb⟩ := h.halves
 have hsa : t.a.sz ≤ 1048576 := by unfold TwoM.sz at hs; omega
 have hsb : t.b.sz ≤ 1048576 := by unfold TwoM.sz at hs; omega
 have S := Sep.nil w w.heap.size
 have c := Below.refl w.heap.size w
 replace S := S.boxAt c.size (w.heap.size) rfl #[.slice Aa0 na0 ca0, .slice Aa1 na1 ca1, .slice Aa2 na2 ca2, .slice Aa3 na3 ca3] 34
 replace c := al c S
 replace S := S.boxAt c.size (w.heap.size + 1) (by simp) #[.slice none 0 0, .slice none 0 0, .slice none 0 0, .slice none 0 0] 34
 replace c := al c S
 go_enter Try.func44, Try.ntmps44
 go_wp2_with fail
 generalize (w.alloc (.cells #[.slice Aa0 na0 ca0, .slice Aa1 na1 ca1, .slice Aa2 na2 ca2, .slice Aa3 na3 ca3] 34)).alloc (.cells #[.slice none 0 0, .slice none 0 0, .slice none 0 0, .slice none 0 0] 34) = w1 at *
 refine wp_region_L (fun v => v.cell? ⟨w.heap.size, 0, none⟩ = some (.slice Aa0 na0 ca0) ∧ v.cell? ⟨w.heap.size, 1, none⟩ = some (.slice Aa1 na1 ca1) ∧ v.cell? ⟨w.heap.size, 2, none⟩ = some (.slice Aa2 na2 ca2) ∧ v.cell? ⟨w.heap.size, 3, none⟩ = some (.slice Aa3 na3 ca3)) 7 (by kernel_rfl) ?_
 replace S := S.keep ((Below.refl _ _).drew)
 replace c := c.drew
 generalize w1.drew = w2 at *
 have HF : w2.cell? ⟨w.heap.size, 0, none⟩ = some (.slice Aa0 na0 ca0) ∧ w2.cell? ⟨w.heap.size, 1, none⟩ = some (.slice Aa1 na1 ca1) ∧ w2.cell? ⟨w.heap.size, 2, none⟩ = some (.slice Aa2 na2 ca2) ∧ w2.cell? ⟨w.heap.size, 3, none⟩ = some (.slice Aa3 na3 ca3) := ⟨(S.at_ 1 rfl).cell 0, (S.at_ 1 rfl).cell 1, (S.at_ 1 rfl).cell 2, (S.at_ 1 rfl).cell 3⟩
 refine tk 0 (v := ?_) rfl rfl HF (.inl ⟨by rfl, ?_⟩) ?_
 rotate_left 1
 · (rintro v ⟨a0, a1, a2, a3⟩; go_simp; try with_reducible rfl)
 try simp only [Act.put]
 refine tk 1 (v := ?_) rfl rfl HF (.inl ⟨by rfl, ?_⟩) ?_
 rotate_left 1
 · (rintro v ⟨a0, a1, a2, a3⟩; go_simp; try with_reducible rfl)
 try simp only [Act.put]
 refine tk 3 (v := ?_) rfl rfl HF (.inl ⟨by rfl, ?_⟩) ?_
 rotate_left 1
 · (rintro v ⟨a0, a1, a2, a3⟩; go_simp; try with_reducible rfl)
 try simp only [Act.put]
 refine tk 4 (v := ?_) rfl rfl HF (.inl ⟨by rfl, ?_⟩) ?_
 rotate_left 1
 · (rintro v ⟨a0, a1, a2, a3⟩; go_simp; try with_reducible rfl)
 try simp only [Act.put]
 refine wpAnyL_step (i := 2) (by kernel_rfl) rfl rfl ?_
 intro K hK
 go_simp
 refine (sCopyD_any _ _ t.a _ ((ha.keep c).up c.size) (by omega)).mono ?_
 rintro e w3 ⟨Au0, nu0, cu0, Au1, nu1, cu1, rfl, o, b⟩
 obtain ⟨fp_u, S'⟩ := S.has b o c.size
 replace c := c.trans (b.mono c.size)
 clear S; have S := S'; clear S' o b
 clear HF
 have HF : w3.cell? ⟨w.heap.size, 0, none⟩ = some (.slice Aa0 na0 ca0) ∧ w3.cell? ⟨w.heap.size, 1, none⟩ = some (.slice Aa1 na1 ca1) ∧ w3.cell? ⟨w.heap.size, 2, none⟩ = some (.slice Aa2 na2 ca2) ∧ w3.cell? ⟨w.heap.size, 3, none⟩ = some (.slice Aa3 na3 ca3) := ⟨(S.at_ 2 rfl).cell 0, (S.at_ 2 rfl).cell 1, (S.at_ 2 rfl).cell 2, (S.at_ 2 rfl).cell 3⟩
 refine hK _ _ (fun _ => HF) ?_
 clear hK K
 try simp only [Act.put]
 refine wpAnyL_step (i := 5) (by kernel_rfl) rfl rfl ?_
 intro K hK
 go_simp
 refine (sCopyD_any _ _ t.b _ ((hb.keep c).up c.size) (by omega)).mono ?_
 rintro e w4 ⟨Ay0, ny0, cy0, Ay1, ny1, cy1, rfl, o, b⟩
 obtain ⟨fp_y, S'⟩ := S.has b o c.size
 replace c := c.trans (b.mono c.size)
 clear S; have S := S'; clear S' o b
 clear HF
 have HF : w4.cell? ⟨w.heap.size, 0, none⟩ = some (.slice Aa0 na0 ca0) ∧ w4.cell? ⟨w.heap.size, 1, none⟩ = some (.slice Aa1 na1 ca1) ∧ w4.cell? ⟨w.heap.size, 2, none⟩ = some (.slice Aa2 na2 ca2) ∧ w4.cell? ⟨w.heap.size, 3, none⟩ = some (.slice Aa3 na3 ca3) := ⟨(S.at_ 3 rfl).cell 0, (S.at_ 3 rfl).cell 1, (S.at_ 3 rfl).cell 2, (S.at_ 3 rfl).cell 3⟩
 refine hK _ _ (fun _ => HF) ?_
 clear hK K
 try simp only [Act.put]
 refine wpAnyL_step (i := 6) (by kernel_rfl) rfl rfl ?_
 intro K hK
 go_simp
 refine hK _ _ (fun _ => HF) ?_
 clear hK K
 try simp only [Act.put]
 have f0 := lk S 2 0 rfl rfl
 have f1 := (S.at_ 2 rfl).free 0
 have f2 := lk S 2 1 rfl rfl
 have f3 := (S.at_ 2 rfl).free 1
 have f4 := lk S 2 2 rfl rfl
 have f5 := (S.at_ 2 rfl).free 2
 have f6 := lk S 2 3 rfl rfl
 have f7 := (S.at_ 2 rfl).free 3
 replace S := S.put 2 rfl 0 (.slice Au0 nu0 cu0)
 replace c := st c S (by omega)
 replace S := S.put 2 rfl 1 (.slice Au1 nu1 cu1)
 replace c := st c S (by omega)
 replace S := S.put 2 rfl 2 (.slice Ay0 ny0 cy0)
 replace c := st c S (by omega)
 replace S := S.put 2 rfl 3 (.slice Ay1 ny1 cy1)
 replace c := st c S (by omega)
 have H := jd S.pair
 have C := jd c
 clear S c HF
 refine wpAnyL_step (i := 7) (by kernel_rfl) rfl rfl ?_
 intro K hK
 go_simp
 refine hK _ _ (fun h => nomatch (show true = false from h)) ?_
 clear hK K
 try simp only [Act.put]
 refine wpAnyL_done (by kernel_rfl) ?_ _
 go_wp2
 exact bodyPost_ret (v := .agg #[.slice Au0 nu0 cu0, .slice Au1 nu1 cu1, .slice Ay0 ny0 cy0, .slice Ay1 ny1 cy1]) (by simp [results, Try.results44, go_sem, f0, f2, f4, f6]) rfl ⟨_, _, _, _, _, _, _, _, _, _, _, _, rfl, by first | exact H.out | (rw [HR.out]; exact H.out), C.out⟩
set_option maxHeartbeats 12800000 in
theorem sBothSynced_any (Aa0 : Option Addr) (na0 ca0 : Nat) (Aa1 : Option Addr) (na1 ca1 : Nat) (Aa2 : Option Addr) (na2 ca2 : Nat) (Aa3 : Option Addr) (na3 ca3 : Nat) (t : TwoM) (w : World) (h : Rd w w.heap.size t.cells [.slice Aa0 na0 ca0, .slice Aa1 na1 ca1, .slice Aa2 na2 ca2, .slice Aa3 na3 ca3]) (hs : t.sz ≤ 1048576) :
    Calls Try.prog 71 #[.agg #[.slice Aa0 na0 ca0, .slice Aa1 na1 ca1, .slice Aa2 na2 ca2, .slice Aa3 na3 ca3]] w (MadeT w (bothSynced t)) := by
 obtain ⟨ha, hb⟩ := h.halves
 have hsa : t.a.sz ≤ 1048576 := by unfold TwoM.sz at hs; omega
 have hsb : t.b.sz ≤ 1048576 := by unfold TwoM.sz at hs; omega
 cases hok : twoOk t
 case false =>
  have HR := jd (show bothSynced t = zeroT by simp [bothSynced, hok])
  have HT := jd hok
  clear hok
  have S := Sep.nil w w.heap.size
  have c := Below.refl w.heap.size w
  replace S := S.boxAt c.size (w.heap.size) rfl #[.slice Aa0 na0 ca0, .slice Aa1 na1 ca1, .slice Aa2 na2 ca2, .slice Aa3 na3 ca3] 34
  replace c := al c S
  replace S := S.boxAt c.size (w.heap.size + 1) (by simp) #[.slice none 0 0, .slice none 0 0, .slice none 0 0, .slice none 0 0] 34
  replace c := al c S
  go_enter Try.func71, Try.ntmps71
  have f0 := lk S 1 0 rfl rfl
  have f1 := lk S 1 1 rfl rfl
  have f2 := lk S 1 2 rfl rfl
  have f3 := lk S 1 3 rfl rfl
  go_wp2_with fail
  generalize (w.alloc (.cells #[.slice Aa0 na0 ca0, .slice Aa1 na1 ca1, .slice Aa2 na2 ca2, .slice Aa3 na3 ca3] 34)).alloc (.cells #[.slice none 0 0, .slice none 0 0, .slice none 0 0, .slice none 0 0] 34) = w1 at *
  refine (sTwoOk_any _ _ _ _ _ _ _ _ _ _ _ _  t _ _ (h.keep c) c.size (by omega)).mono ?_
  rintro e w2 ⟨rfl, b⟩
  replace c := c.trans (b.mono c.size)
  replace S := S.keep b
  clear b f0 f1 f2 f3
  rw [HT.out]
  have f4 := lk S 0 0 rfl rfl
  have f5 := (S.at_ 0 rfl).free 0
  have f6 := lk S 0 1 rfl rfl
  have f7 := (S.at_ 0 rfl).free 1
  have f8 := lk S 0 2 rfl rfl
  have f9 := (S.at_ 0 rfl).free 2
  have f10 := lk S 0 3 rfl rfl
  have f11 := (S.at_ 0 rfl).free 3
  replace S := S.put 0 rfl 0 (.slice none 0 0)
  replace c := st c S (by omega)
  replace S := S.put 0 rfl 1 (.slice none 0 0)
  replace c := st c S (by omega)
  replace S := S.put 0 rfl 2 (.slice none 0 0)
  replace c := st c S (by omega)
  replace S := S.put 0 rfl 3 (.slice none 0 0)
  replace c := st c S (by omega)
  have C := jd c
  clear S c h
  go_wp2
  exact bodyPost_ret (v := .agg #[.slice none 0 0, .slice none 0 0, .slice none 0 0, .slice none 0 0]) (by simp [results, Try.results71, go_sem, f4, f6, f8, f10]) rfl ⟨_, _, _, _, _, _, _, _, _, _, _, _, rfl, by rw [HR.out]; exact has_zeroT _ _, C.out⟩
 have HR := jd (show bothSynced t = ⟨synced t.a, synced t.b⟩ by simp [bothSynced, hok])
 have HT := jd hok
 clear hok
 have S := Sep.nil w w.heap.size
 have c := Below.refl w.heap.size w
 replace S := S.boxAt c.size (w.heap.size) rfl #[.slice Aa0 na0 ca0, .slice Aa1 na1 ca1, .slice Aa2 na2 ca2, .slice Aa3 na3 ca3] 34
 replace c := al c S
 replace S := S.boxAt c.size (w.heap.size + 1) (by simp) #[.slice none 0 0, .slice none 0 0, .slice none 0 0, .slice none 0 0] 34
 replace c := al c S
 go_enter Try.func71, Try.ntmps71
 have f0 := lk S 1 0 rfl rfl
 have f1 := lk S 1 1 rfl rfl
 have f2 := lk S 1 2 rfl rfl
 have f3 := lk S 1 3 rfl rfl
 go_wp2_with fail
 generalize (w.alloc (.cells #[.slice Aa0 na0 ca0, .slice Aa1 na1 ca1, .slice Aa2 na2 ca2, .slice Aa3 na3 ca3] 34)).alloc (.cells #[.slice none 0 0, .slice none 0 0, .slice none 0 0, .slice none 0 0] 34) = w1 at *
 refine (sTwoOk_any _ _ _ _ _ _ _ _ _ _ _ _  t _ _ (h.keep c) c.size (by omega)).mono ?_
 rintro e w2 ⟨rfl, b⟩
 replace c := c.trans (b.mono c.size)
 replace S := S.keep b
 clear b f0 f1 f2 f3
 rw [HT.out]
 go_wp2_with fail
 refine wp_region_L (fun v => v.cell? ⟨w.heap.size, 0, none⟩ = some (.slice Aa0 na0 ca0) ∧ v.cell? ⟨w.heap.size, 1, none⟩ = some (.slice Aa1 na1 ca1) ∧ v.cell? ⟨w.heap.size, 2, none⟩ = some (.slice Aa2 na2 ca2) ∧ v.cell? ⟨w.heap.size, 3, none⟩ = some (.slice Aa3 na3 ca3)) 7 (by kernel_rfl) ?_
 replace S := S.keep ((Below.refl _ _).drew)
 replace c := c.drew
 generalize w2.drew = w3 at *
 have HF : w3.cell? ⟨w.heap.size, 0, none⟩ = some (.slice Aa0 na0 ca0) ∧ w3.cell? ⟨w.heap.size, 1, none⟩ = some (.slice Aa1 na1 ca1) ∧ w3.cell? ⟨w.heap.size, 2, none⟩ = some (.slice Aa2 na2 ca2) ∧ w3.cell? ⟨w.heap.size, 3, none⟩ = some (.slice Aa3 na3 ca3) := ⟨(S.at_ 1 rfl).cell 0, (S.at_ 1 rfl).cell 1, (S.at_ 1 rfl).cell 2, (S.at_ 1 rfl).cell 3⟩
 refine tk 0 (v := ?_) rfl rfl HF (.inl ⟨by rfl, ?_⟩) ?_
 rotate_left 1
 · (rintro v ⟨a0, a1, a2, a3⟩; go_simp; try with_reducible rfl)
 try simp only [Act.put]
 refine tk 1 (v := ?_) rfl rfl HF (.inl ⟨by rfl, ?_⟩) ?_
 rotate_left 1
 · (rintro v ⟨a0, a1, a2, a3⟩; go_simp; try with_reducible rfl)
 try simp only [Act.put]
 refine tk 3 (v := ?_) rfl rfl HF (.inl ⟨by rfl, ?_⟩) ?_
 rotate_left 1
 · (rintro v ⟨a0, a1, a2, a3⟩; go_simp; try with_reducible rfl)
 try simp only [Act.put]
 refine tk 4 (v := ?_) rfl rfl HF (.inl ⟨by rfl, ?_⟩) ?_
 rotate_left 1
 · (rintro v ⟨a0, a1, a2, a3⟩; go_simp; try with_reducible rfl)
 try simp only [Act.put]
 refine wpAnyL_step (i := 2) (by kernel_rfl) rfl rfl ?_
 intro K hK
 go_simp
 refine (sSynced_any _ _ _ _ _ _ t.a _ ((ha.keep c).up c.size) hsa).mono ?_
 rintro e w4 ⟨Au0, nu0, cu0, Au1, nu1, cu1, rfl, o, b⟩
 obtain ⟨fp_u, S'⟩ := S.has b o c.size
 replace c := c.trans (b.mono c.size)
 clear S; have S := S'; clear S' o b
 clear HF
 have HF : w4.cell? ⟨w.heap.size, 0, none⟩ = some (.slice Aa0 na0 ca0) ∧ w4.cell? ⟨w.heap.size, 1, none⟩ = some (.slice Aa1 na1 ca1) ∧ w4.cell? ⟨w.heap.size, 2, none⟩ = some (.slice Aa2 na2 ca2) ∧ w4.cell? ⟨w.heap.size, 3, none⟩ = some (.slice Aa3 na3 ca3) := ⟨(S.at_ 2 rfl).cell 0, (S.at_ 2 rfl).cell 1, (S.at_ 2 rfl).cell 2, (S.at_ 2 rfl).cell 3⟩
 refine hK _ _ (fun _ => HF) ?_
 clear hK K
 try simp only [Act.put]
 refine wpAnyL_step (i := 5) (by kernel_rfl) rfl rfl ?_
 intro K hK
 go_simp
 refine (sSynced_any _ _ _ _ _ _ t.b _ ((hb.keep c).up c.size) hsb).mono ?_
 rintro e w5 ⟨Ay0, ny0, cy0, Ay1, ny1, cy1, rfl, o, b⟩
 obtain ⟨fp_y, S'⟩ := S.has b o c.size
 replace c := c.trans (b.mono c.size)
 clear S; have S := S'; clear S' o b
 clear HF
 have HF : w5.cell? ⟨w.heap.size, 0, none⟩ = some (.slice Aa0 na0 ca0) ∧ w5.cell? ⟨w.heap.size, 1, none⟩ = some (.slice Aa1 na1 ca1) ∧ w5.cell? ⟨w.heap.size, 2, none⟩ = some (.slice Aa2 na2 ca2) ∧ w5.cell? ⟨w.heap.size, 3, none⟩ = some (.slice Aa3 na3 ca3) := ⟨(S.at_ 3 rfl).cell 0, (S.at_ 3 rfl).cell 1, (S.at_ 3 rfl).cell 2, (S.at_ 3 rfl).cell 3⟩
 refine hK _ _ (fun _ => HF) ?_
 clear hK K
 try simp only [Act.put]
 refine wpAnyL_step (i := 6) (by kernel_rfl) rfl rfl ?_
 intro K hK
 go_simp
 refine hK _ _ (fun _ => HF) ?_
 clear hK K
 try simp only [Act.put]
 have f4 := lk S 2 0 rfl rfl
 have f5 := (S.at_ 2 rfl).free 0
 have f6 := lk S 2 1 rfl rfl
 have f7 := (S.at_ 2 rfl).free 1
 have f8 := lk S 2 2 rfl rfl
 have f9 := (S.at_ 2 rfl).free 2
 have f10 := lk S 2 3 rfl rfl
 have f11 := (S.at_ 2 rfl).free 3
 replace S := S.put 2 rfl 0 (.slice Au0 nu0 cu0)
 replace c := st c S (by omega)
 replace S := S.put 2 rfl 1 (.slice Au1 nu1 cu1)
 replace c := st c S (by omega)
 replace S := S.put 2 rfl 2 (.slice Ay0 ny0 cy0)
 replace c := st c S (by omega)
 replace S := S.put 2 rfl 3 (.slice Ay1 ny1 cy1)
 replace c := st c S (by omega)
 have H := jd S.pair
 have C := jd c
 clear S c HF
 refine wpAnyL_step (i := 7) (by kernel_rfl) rfl rfl ?_
 intro K hK
 go_simp
 refine hK _ _ (fun h => nomatch (show true = false from h)) ?_
 clear hK K
 try simp only [Act.put]
 refine wpAnyL_done (by kernel_rfl) ?_ _
 go_wp2
 exact bodyPost_ret (v := .agg #[.slice Au0 nu0 cu0, .slice Au1 nu1 cu1, .slice Ay0 ny0 cy0, .slice Ay1 ny1 cy1]) (by simp [results, Try.results71, go_sem, f4, f6, f8, f10]) rfl ⟨_, _, _, _, _, _, _, _, _, _, _, _, rfl, by first | exact H.out | (rw [HR.out]; exact H.out), C.out⟩
end Go.Proofs.Ytecihkkagpbkdaa
