/- Parts of my texts: HeadS6. -/
import Derived.Test.YtecihkkagpbkdaaK16
import Derived.Test.YtecihkkagpbkdaaK17
import Derived.Test.YtecihkkagpbkdaaK19
namespace Go.Proofs.Ytecihkkagpbkdaa
set_option maxRecDepth 100000
set_option linter.unusedVariables false
open Go.RowKit
set_option maxHeartbeats 6400000 in
theorem sNewKept_any (w : World) : Calls Try.prog 13 #[] w (MadeT w newKeptM) := by
 have HRL := jd (headRowM_len headZ)
 have S := Sep.nil w w.heap.size
 have c := Below.refl w.heap.size w
 replace S := S.boxAt c.size (w.heap.size) rfl #[.slice none 0 0, .slice none 0 0, .slice none 0 0, .slice none 0 0] 34
 replace c := al c S
 go_enter Try.func13, Try.ntmps13
 go_wp2_with fail
 generalize w.alloc (.cells #[.slice none 0 0, .slice none 0 0, .slice none 0 0, .slice none 0 0] 34) = w1 at *
 refine (sNewTwo_any 22 _).mono ?_
 rintro e w2 ⟨Au0, nu0, cu0, Au1, nu1, cu1, Au2, nu2, cu2, Au3, nu3, cu3, rfl, o, b⟩
 obtain ⟨fp_u, S'⟩ := S.has b o c.size
 replace c := c.trans (b.mono c.size)
 clear S; have S := S'; clear S' o b
 go_wp2_with fail
 refine (sHeadRow_any 0 0 0 none 0 0 _ [] _ (ow_nil_mrksH _).rd (Nat.le_refl _) (by decide)).mono ?_
 rintro e w3 ⟨A2, n2, c2, rfl, o, b⟩
 obtain ⟨fp_h, S'⟩ := S.has b o c.size
 replace c := c.trans (b.mono c.size)
 clear S; have S := S'; clear S' o b
 go_wp2_with fail
 refine (sMendedAt_any Au0 nu0 cu0 Au1 nu1 cu1 Au2 nu2 cu2 Au3 nu3 cu3 (newTwo 22) 0 A2 n2 c2 (headRowM headZ) _ (S.own_ 1 rfl).rd (by decide) (S.own_ 0 rfl).rd (by have := HRL.out; omega)).mono ?_
 rintro e w4 ⟨Az0, nz0, cz0, Az1, nz1, cz1, Az2, nz2, cz2, Az3, nz3, cz3, rfl, o, b⟩
 obtain ⟨fp_z, S'⟩ := S.has b o c.size
 replace c := c.trans (b.mono c.size)
 clear S; have S := S'; clear S' o b
 have f0 := lk S 3 0 rfl rfl
 have f1 := (S.at_ 3 rfl).free 0
 have f2 := lk S 3 1 rfl rfl
 have f3 := (S.at_ 3 rfl).free 1
 have f4 := lk S 3 2 rfl rfl
 have f5 := (S.at_ 3 rfl).free 2
 have f6 := lk S 3 3 rfl rfl
 have f7 := (S.at_ 3 rfl).free 3
 replace S := S.put 3 rfl 0 (.slice Az0 nz0 cz0)
 replace c := st c S (by omega)
 replace S := S.put 3 rfl 1 (.slice Az1 nz1 cz1)
 replace c := st c S (by omega)
 replace S := S.put 3 rfl 2 (.slice Az2 nz2 cz2)
 replace c := st c S (by omega)
 replace S := S.put 3 rfl 3 (.slice Az3 nz3 cz3)
 replace c := st c S (by omega)
 replace S := S.pick 0 rfl
 have H := jd S.first
 have r0 := jd ((S.at_ 3 rfl).cell 0)
 have r1 := jd ((S.at_ 3 rfl).cell 1)
 have r2 := jd ((S.at_ 3 rfl).cell 2)
 have r3 := jd ((S.at_ 3 rfl).cell 3)
 have CC := jd c
 clear S c
 go_wp2
 exact bodyPost_ret (v := .agg #[.slice Az0 nz0 cz0, .slice Az1 nz1 cz1, .slice Az2 nz2 cz2, .slice Az3 nz3 cz3]) (by simp [results, Try.results13, go_sem, r0.out, r1.out, r2.out, r3.out]) rfl ⟨_, _, _, _, _, _, _, _, _, _, _, _, rfl, H.out, CC.out⟩
set_option maxHeartbeats 12800000 in
theorem sKeptEntry_any (Aa0 : Option Addr) (na0 ca0 : Nat) (Aa1 : Option Addr) (na1 ca1 : Nat) (Aa2 : Option Addr) (na2 ca2 : Nat) (Aa3 : Option Addr) (na3 ca3 : Nat) (t : TwoM) (x0 x1 x2 x3 x4 x5 x6 x7 x8 : Int) (w : World) (h : Rd w w.heap.size t.cells [.slice Aa0 na0 ca0, .slice Aa1 na1 ca1, .slice Aa2 na2 ca2, .slice Aa3 na3 ca3]) (hs : t.sz ≤ 1048576) :
    Calls Try.prog 17 #[.agg #[.slice Aa0 na0 ca0, .slice Aa1 na1 ca1, .slice Aa2 na2 ca2, .slice Aa3 na3 ca3], .agg #[.int .i64 x0, .int .i64 x1, .int .i64 x2, .int .i64 x3, .int .i64 x4, .int .i64 x5, .int .i64 x6, .int .i64 x7, .int .i64 x8]] w (MadeTB w (keptEntryM t ⟨x0, x1, x2, x3, x4, x5, x6, x7, x8⟩)) := by
 have HH := jd h
 clear h
 have S := Sep.nil w w.heap.size
 have c := Below.refl w.heap.size w
 replace S := S.boxAt c.size (w.heap.size) rfl #[.slice Aa0 na0 ca0, .slice Aa1 na1 ca1, .slice Aa2 na2 ca2, .slice Aa3 na3 ca3] 34
 replace c := al c S
 replace S := S.boxAt c.size (w.heap.size + 1) (by simp) #[.int .i64 x0, .int .i64 x1, .int .i64 x2, .int .i64 x3, .int .i64 x4, .int .i64 x5, .int .i64 x6, .int .i64 x7, .int .i64 x8] 49
 replace c := al c S
 replace S := S.boxAt c.size (w.heap.size + 1 + 1) (by simp) #[.slice none 0 0, .slice none 0 0, .slice none 0 0, .slice none 0 0] 34
 replace c := al c S
 go_enter Try.func17, Try.ntmps17
 have f0 := lk S 2 0 rfl rfl
 have f1 := lk S 2 1 rfl rfl
 have f2 := lk S 2 2 rfl rfl
 have f3 := lk S 2 3 rfl rfl
 go_wp2_with fail
 generalize ((w.alloc (.cells #[.slice Aa0 na0 ca0, .slice Aa1 na1 ca1, .slice Aa2 na2 ca2, .slice Aa3 na3 ca3] 34)).alloc (.cells #[.int .i64 x0, .int .i64 x1, .int .i64 x2, .int .i64 x3, .int .i64 x4, .int .i64 x5, .int .i64 x6, .int .i64 x7, .int .i64 x8] 49)).alloc (.cells #[.slice none 0 0, .slice none 0 0, .slice none 0 0, .slice none 0 0] 34) = w1 at *
 refine (sKeptOk_any Aa0 na0 ca0 Aa1 na1 ca1 Aa2 na2 ca2 Aa3 na3 ca3 t _ _ (HH.out.keep c) c.size (by omega)).mono ?_
 rintro e w2 ⟨rfl, b2⟩
 replace c := c.trans (b2.mono c.size)
 replace S := S.keep b2
 clear b2 f0 f1 f2 f3
 cases hk : keptB t
 case false =>
  have HV := jd (show keptEntryM t ⟨x0, x1, x2, x3, x4, x5, x6, x7, x8⟩ = (zeroT, false) by unfold keptEntryM; rw [hk]; rfl)
  clear hk
  have f4 := lk S 0 0 rfl rfl
  have f5 := (S.at_ 0 rfl).free 0
  have f6 := lk S 0 1 rfl rfl
  have f7 := (S.at_ 0 rfl).free 1
  have f8 := lk S 0 2 rfl rfl
  have f9 := (S.at_ 0 rfl).free 2
  have f10 := lk S 0 3 rfl rfl
  have f11 := (S.at_ 0 rfl).free 3
  replace S := S.put 0 rfl 0 (.slice none 0 0)
  replace c := st c S (by omega)
  replace S := S.put 0 rfl 1 (.slice none 0 0)
  replace c := st c S (by omega)
  replace S := S.put 0 rfl 2 (.slice none 0 0)
  replace c := st c S (by omega)
  replace S := S.put 0 rfl 3 (.slice none 0 0)
  replace c := st c S (by omega)
  have H := jd (has_zeroT ((((w2.setCell ⟨w.heap.size + 1 + 1, 0, none⟩ (.slice none 0 0)).setCell ⟨w.heap.size + 1 + 1, 1, none⟩ (.slice none 0 0)).setCell ⟨w.heap.size + 1 + 1, 2, none⟩ (.slice none 0 0)).setCell ⟨w.heap.size + 1 + 1, 3, none⟩ (.slice none 0 0)) w.heap.size)
  have r0 := jd ((S.at_ 0 rfl).cell 0)
  have r1 := jd ((S.at_ 0 rfl).cell 1)
  have r2 := jd ((S.at_ 0 rfl).cell 2)
  have r3 := jd ((S.at_ 0 rfl).cell 3)
  have CC := jd c
  clear S c
  go_wp2
  exact bodyPost_ret (v := .tuple #[.agg #[.slice none 0 0, .slice none 0 0, .slice none 0 0, .slice none 0 0], .bool false]) (by simp [results, Try.results17, go_sem, r0.out, r1.out, r2.out, r3.out]) rfl ⟨_, _, _, _, _, _, _, _, _, _, _, _, by rw [HV.out], by rw [HV.out]; exact H.out, CC.out⟩
 case true =>
  have HKK := jd hk
  have f4 := lk S 1 0 rfl rfl
  have f5 := lk S 1 1 rfl rfl
  have f6 := lk S 1 2 rfl rfl
  have f7 := lk S 1 3 rfl rfl
  have f8 := lk S 1 4 rfl rfl
  have f9 := lk S 1 5 rfl rfl
  have f10 := lk S 1 6 rfl rfl
  have f11 := lk S 1 7 rfl rfl
  have f12 := lk S 1 8 rfl rfl
  go_wp2_with fail
  refine (sEntryOk_any x0 x1 x2 x3 x4 x5 x6 x7 x8 _).mono ?_
  rintro e w3 ⟨rfl, b2⟩
  replace c := c.trans (b2.mono c.size)
  replace S := S.keep b2
  clear b2 f4 f5 f6 f7 f8 f9 f10 f11 f12
  cases hok : entB ⟨x0, x1, x2, x3, x4, x5, x6, x7, x8⟩
  case false =>
   have HV := jd (show keptEntryM t ⟨x0, x1, x2, x3, x4, x5, x6, x7, x8⟩ = (t, false) by unfold keptEntryM; rw [if_pos hk, if_neg (by rw [hok]; decide)])
   clear hk hok
   have f13 := lk S 2 0 rfl rfl
   have f14 := lk S 2 1 rfl rfl
   have f15 := lk S 2 2 rfl rfl
   have f16 := lk S 2 3 rfl rfl
   go_wp2_with fail
   refine (sCopyT_any Aa0 na0 ca0 Aa1 na1 ca1 Aa2 na2 ca2 Aa3 na3 ca3 t _ ((HH.out.keep c).up c.size) hs).mono ?_
   rintro e w4 ⟨Au0, nu0, cu0, Au1, nu1, cu1, Au2, nu2, cu2, Au3, nu3, cu3, rfl, o, b⟩
   obtain ⟨fp_u, S'⟩ := S.has b o c.size
   replace c := c.trans (b.mono c.size)
   clear S; have S := S'; clear S' o b f13 f14 f15 f16
   have f17 := lk S 1 0 rfl rfl
   have f18 := (S.at_ 1 rfl).free 0
   have f19 := lk S 1 1 rfl rfl
   have f20 := (S.at_ 1 rfl).free 1
   have f21 := lk S 1 2 rfl rfl
   have f22 := (S.at_ 1 rfl).free 2
   have f23 := lk S 1 3 rfl rfl
   have f24 := (S.at_ 1 rfl).free 3
   replace S := S.put 1 rfl 0 (.slice Au0 nu0 cu0)
   replace c := st c S (by omega)
   replace S := S.put 1 rfl 1 (.slice Au1 nu1 cu1)
   replace c := st c S (by omega)
   replace S := S.put 1 rfl 2 (.slice Au2 nu2 cu2)
   replace c := st c S (by omega)
   replace S := S.put 1 rfl 3 (.slice Au3 nu3 cu3)
   replace c := st c S (by omega)
   replace S := S.pick 0 rfl
   have H := jd (S.first)
   have r0 := jd ((S.at_ 1 rfl).cell 0)
   have r1 := jd ((S.at_ 1 rfl).cell 1)
   have r2 := jd ((S.at_ 1 rfl).cell 2)
   have r3 := jd ((S.at_ 1 rfl).cell 3)
   have CC := jd c
   clear S c
   go_wp2
   exact bodyPost_ret (v := .tuple #[.agg #[.slice Au0 nu0 cu0, .slice Au1 nu1 cu1, .slice Au2 nu2 cu2, .slice Au3 nu3 cu3], .bool false]) (by simp [results, Try.results17, go_sem, r0.out, r1.out, r2.out, r3.out]) rfl ⟨_, _, _, _, _, _, _, _, _, _, _, _, by rw [HV.out], by rw [HV.out]; exact H.out, CC.out⟩
  case true =>
   have HV := jd (show keptEntryM t ⟨x0, x1, x2, x3, x4, x5, x6, x7, x8⟩ = bothWrote t (slotOfM x0) (slotRowM ⟨x0, x1, x2, x3, x4, x5, x6, x7, x8⟩) by unfold keptEntryM; rw [if_pos hk, if_pos hok])
   have HRL := jd (slotRowM_len ⟨x0, x1, x2, x3, x4, x5, x6, x7, x8⟩)
   clear hk hok
   go_wp2_with fail
   refine wp_region_L (fun v => v.cell? ⟨w.heap.size, 0, none⟩ = some (.slice Aa0 na0 ca0) ∧ v.cell? ⟨w.heap.size, 1, none⟩ = some (.slice Aa1 na1 ca1) ∧ v.cell? ⟨w.heap.size, 2, none⟩ = some (.slice Aa2 na2 ca2) ∧ v.cell? ⟨w.heap.size, 3, none⟩ = some (.slice Aa3 na3 ca3) ∧ v.cell? ⟨w.heap.size + 1, 0, none⟩ = some (.int .i64 x0) ∧ v.cell? ⟨w.heap.size + 1, 1, none⟩ = some (.int .i64 x1) ∧ v.cell? ⟨w.heap.size + 1, 2, none⟩ = some (.int .i64 x2) ∧ v.cell? ⟨w.heap.size + 1, 3, none⟩ = some (.int .i64 x3) ∧ v.cell? ⟨w.heap.size + 1, 4, none⟩ = some (.int .i64 x4) ∧ v.cell? ⟨w.heap.size + 1, 5, none⟩ = some (.int .i64 x5) ∧ v.cell? ⟨w.heap.size + 1, 6, none⟩ = some (.int .i64 x6) ∧ v.cell? ⟨w.heap.size + 1, 7, none⟩ = some (.int .i64 x7) ∧ v.cell? ⟨w.heap.size + 1, 8, none⟩ = some (.int .i64 x8)) 10 (by kernel_rfl) ?_
   replace S := S.keep ((Below.refl _ _).drew)
   replace c := c.drew
   generalize w3.drew = w4 at *
   have HF : w4.cell? ⟨w.heap.size, 0, none⟩ = some (.slice Aa0 na0 ca0) ∧ w4.cell? ⟨w.heap.size, 1, none⟩ = some (.slice Aa1 na1 ca1) ∧ w4.cell? ⟨w.heap.size, 2, none⟩ = some (.slice Aa2 na2 ca2) ∧ w4.cell? ⟨w.heap.size, 3, none⟩ = some (.slice Aa3 na3 ca3) ∧ w4.cell? ⟨w.heap.size + 1, 0, none⟩ = some (.int .i64 x0) ∧ w4.cell? ⟨w.heap.size + 1, 1, none⟩ = some (.int .i64 x1) ∧ w4.cell? ⟨w.heap.size + 1, 2, none⟩ = some (.int .i64 x2) ∧ w4.cell? ⟨w.heap.size + 1, 3, none⟩ = some (.int .i64 x3) ∧ w4.cell? ⟨w.heap.size + 1, 4, none⟩ = some (.int .i64 x4) ∧ w4.cell? ⟨w.heap.size + 1, 5, none⟩ = some (.int .i64 x5) ∧ w4.cell? ⟨w.heap.size + 1, 6, none⟩ = some (.int .i64 x6) ∧ w4.cell? ⟨w.heap.size + 1, 7, none⟩ = some (.int .i64 x7) ∧ w4.cell? ⟨w.heap.size + 1, 8, none⟩ = some (.int .i64 x8) := ⟨(S.at_ 2 rfl).cell 0, (S.at_ 2 rfl).cell 1, (S.at_ 2 rfl).cell 2, (S.at_ 2 rfl).cell 3, (S.at_ 1 rfl).cell 0, (S.at_ 1 rfl).cell 1, (S.at_ 1 rfl).cell 2, (S.at_ 1 rfl).cell 3, (S.at_ 1 rfl).cell 4, (S.at_ 1 rfl).cell 5, (S.at_ 1 rfl).cell 6, (S.at_ 1 rfl).cell 7, (S.at_ 1 rfl).cell 8⟩
   refine tk 0 (v := ?_) rfl rfl HF (.inl ⟨by rfl, ?_⟩) ?_
   rotate_left 1
   · (rintro v ⟨a0, a1, a2, a3, a4, a5, a6, a7, a8, a9, a10, a11, a12⟩; go_simp; try with_reducible rfl)
   try simp only [Act.put]
   refine tk 1 (v := ?_) rfl rfl HF (.inl ⟨by rfl, ?_⟩) ?_
   rotate_left 1
   · (rintro v ⟨a0, a1, a2, a3, a4, a5, a6, a7, a8, a9, a10, a11, a12⟩; go_simp; try with_reducible rfl)
   try simp only [Act.put]
   refine tk 2 (v := ?_) rfl rfl HF (.inl ⟨by rfl, ?_⟩) ?_
   rotate_left 1
   · (rintro v ⟨a0, a1, a2, a3, a4, a5, a6, a7, a8, a9, a10, a11, a12⟩; go_simp; try with_reducible rfl)
   try simp only [Act.put]
   refine tk 4 (v := ?_) rfl rfl HF (.inl ⟨by rfl, ?_⟩) ?_
   rotate_left 1
   · (rintro v ⟨a0, a1, a2, a3, a4, a5, a6, a7, a8, a9, a10, a11, a12⟩; go_simp; try with_reducible rfl)
   try simp only [Act.put]
   refine wpAnyL_step (i := 3) (by kernel_rfl) rfl rfl ?_
   intro K hK
   go_simp
   refine (sSlotOf_any x0 _).mono ?_
   rintro e w5 ⟨rfl, b2⟩
   replace c := c.trans (b2.mono c.size)
   replace S := S.keep b2
   clear b2
   clear HF
   have HF : w5.cell? ⟨w.heap.size, 0, none⟩ = some (.slice Aa0 na0 ca0) ∧ w5.cell? ⟨w.heap.size, 1, none⟩ = some (.slice Aa1 na1 ca1) ∧ w5.cell? ⟨w.heap.size, 2, none⟩ = some (.slice Aa2 na2 ca2) ∧ w5.cell? ⟨w.heap.size, 3, none⟩ = some (.slice Aa3 na3 ca3) ∧ w5.cell? ⟨w.heap.size + 1, 0, none⟩ = some (.int .i64 x0) ∧ w5.cell? ⟨w.heap.size + 1, 1, none⟩ = some (.int .i64 x1) ∧ w5.cell? ⟨w.heap.size + 1, 2, none⟩ = some (.int .i64 x2) ∧ w5.cell? ⟨w.heap.size + 1, 3, none⟩ = some (.int .i64 x3) ∧ w5.cell? ⟨w.heap.size + 1, 4, none⟩ = some (.int .i64 x4) ∧ w5.cell? ⟨w.heap.size + 1, 5, none⟩ = some (.int .i64 x5) ∧ w5.cell? ⟨w.heap.size + 1, 6, none⟩ = some (.int .i64 x6) ∧ w5.cell? ⟨w.heap.size + 1, 7, none⟩ = some (.int .i64 x7) ∧ w5.cell? ⟨w.heap.size + 1, 8, none⟩ = some (.int .i64 x8) := ⟨(S.at_ 2 rfl).cell 0, (S.at_ 2 rfl).cell 1, (S.at_ 2 rfl).cell 2, (S.at_ 2 rfl).cell 3, (S.at_ 1 rfl).cell 0, (S.at_ 1 rfl).cell 1, (S.at_ 1 rfl).cell 2, (S.at_ 1 rfl).cell 3, (S.at_ 1 rfl).cell 4, (S.at_ 1 rfl).cell 5, (S.at_ 1 rfl).cell 6, (S.at_ 1 rfl).cell 7, (S.at_ 1 rfl).cell 8⟩
   refine hK _ _ (fun _ => HF) ?_
   clear hK K
   try simp only [Act.put]
   refine wpAnyL_step (i := 5) (by kernel_rfl) rfl rfl ?_
   intro K hK
   go_simp
   refine (sSlotRow_any x0 x1 x2 x3 x4 x5 x6 x7 x8 _).mono ?_
   rintro e w6 ⟨A2, n2, c2, rfl, o, b⟩
   obtain ⟨fp_u, S'⟩ := S.has b o c.size
   replace c := c.trans (b.mono c.size)
   clear S; have S := S'; clear S' o b
   clear HF
   have HF : w6.cell? ⟨w.heap.size, 0, none⟩ = some (.slice Aa0 na0 ca0) ∧ w6.cell? ⟨w.heap.size, 1, none⟩ = some (.slice Aa1 na1 ca1) ∧ w6.cell? ⟨w.heap.size, 2, none⟩ = some (.slice Aa2 na2 ca2) ∧ w6.cell? ⟨w.heap.size, 3, none⟩ = some (.slice Aa3 na3 ca3) ∧ w6.cell? ⟨w.heap.size + 1, 0, none⟩ = some (.int .i64 x0) ∧ w6.cell? ⟨w.heap.size + 1, 1, none⟩ = some (.int .i64 x1) ∧ w6.cell? ⟨w.heap.size + 1, 2, none⟩ = some (.int .i64 x2) ∧ w6.cell? ⟨w.heap.size + 1, 3, none⟩ = some (.int .i64 x3) ∧ w6.cell? ⟨w.heap.size + 1, 4, none⟩ = some (.int .i64 x4) ∧ w6.cell? ⟨w.heap.size + 1, 5, none⟩ = some (.int .i64 x5) ∧ w6.cell? ⟨w.heap.size + 1, 6, none⟩ = some (.int .i64 x6) ∧ w6.cell? ⟨w.heap.size + 1, 7, none⟩ = some (.int .i64 x7) ∧ w6.cell? ⟨w.heap.size + 1, 8, none⟩ = some (.int .i64 x8) := ⟨(S.at_ 3 rfl).cell 0, (S.at_ 3 rfl).cell 1, (S.at_ 3 rfl).cell 2, (S.at_ 3 rfl).cell 3, (S.at_ 2 rfl).cell 0, (S.at_ 2 rfl).cell 1, (S.at_ 2 rfl).cell 2, (S.at_ 2 rfl).cell 3, (S.at_ 2 rfl).cell 4, (S.at_ 2 rfl).cell 5, (S.at_ 2 rfl).cell 6, (S.at_ 2 rfl).cell 7, (S.at_ 2 rfl).cell 8⟩
   refine hK _ _ (fun _ => HF) ?_
   clear hK K
   try simp only [Act.put]
   refine wpAnyL_step (i := 6) (by kernel_rfl) rfl rfl ?_
   intro K hK
   go_simp
   refine (sBothWrote_any Aa0 na0 ca0 Aa1 na1 ca1 Aa2 na2 ca2 Aa3 na3 ca3 t (slotOfM x0) A2 n2 c2 (slotRowM ⟨x0, x1, x2, x3, x4, x5, x6, x7, x8⟩) _ ((HH.out.keep c).up c.size) hs (S.own_ 0 rfl).rd (by have := HRL.out; omega)).mono ?_
   rintro e w7 ⟨Az0, nz0, cz0, Az1, nz1, cz1, Az2, nz2, cz2, Az3, nz3, cz3, rfl, o, b⟩
   obtain ⟨fp_z, S'⟩ := S.has b o c.size
   replace c := c.trans (b.mono c.size)
   clear S; have S := S'; clear S' o b
   rw [← HV.out] at S ⊢
   clear HF
   have HF : w7.cell? ⟨w.heap.size, 0, none⟩ = some (.slice Aa0 na0 ca0) ∧ w7.cell? ⟨w.heap.size, 1, none⟩ = some (.slice Aa1 na1 ca1) ∧ w7.cell? ⟨w.heap.size, 2, none⟩ = some (.slice Aa2 na2 ca2) ∧ w7.cell? ⟨w.heap.size, 3, none⟩ = some (.slice Aa3 na3 ca3) ∧ w7.cell? ⟨w.heap.size + 1, 0, none⟩ = some (.int .i64 x0) ∧ w7.cell? ⟨w.heap.size + 1, 1, none⟩ = some (.int .i64 x1) ∧ w7.cell? ⟨w.heap.size + 1, 2, none⟩ = some (.int .i64 x2) ∧ w7.cell? ⟨w.heap.size + 1, 3, none⟩ = some (.int .i64 x3) ∧ w7.cell? ⟨w.heap.size + 1, 4, none⟩ = some (.int .i64 x4) ∧ w7.cell? ⟨w.heap.size + 1, 5, none⟩ = some (.int .i64 x5) ∧ w7.cell? ⟨w.heap.size + 1, 6, none⟩ = some (.int .i64 x6) ∧ w7.cell? ⟨w.heap.size + 1, 7, none⟩ = some (.int .i64 x7) ∧ w7.cell? ⟨w.heap.size + 1, 8, none⟩ = some (.int .i64 x8) := ⟨(S.at_ 4 rfl).cell 0, (S.at_ 4 rfl).cell 1, (S.at_ 4 rfl).cell 2, (S.at_ 4 rfl).cell 3, (S.at_ 3 rfl).cell 0, (S.at_ 3 rfl).cell 1, (S.at_ 3 rfl).cell 2, (S.at_ 3 rfl).cell 3, (S.at_ 3 rfl).cell 4, (S.at_ 3 rfl).cell 5, (S.at_ 3 rfl).cell 6, (S.at_ 3 rfl).cell 7, (S.at_ 3 rfl).cell 8⟩
   refine hK _ _ (fun _ => HF) ?_
   clear hK K
   try simp only [Act.put]
   refine wpAnyL_pure (i := 7) (v := ?_) rfl rfl (by kernel_rfl) (by kernel_rfl) (by kernel_rfl) (fun _ _ _ h => h) HF (Or.inl ⟨by rfl, ?_⟩) ?_
   rotate_left 1
   · (intro v _; go_simp; try with_reducible rfl)
   try simp only [Act.put]
   refine wpAnyL_pure (i := 8) (v := ?_) rfl rfl (by kernel_rfl) (by kernel_rfl) (by kernel_rfl) (fun _ _ _ h => h) HF (Or.inl ⟨by rfl, ?_⟩) ?_
   rotate_left 1
   · (intro v _; go_simp; try with_reducible rfl)
   try simp only [Act.put]
   have f13 := lk S 2 0 rfl rfl
   have f14 := (S.at_ 2 rfl).free 0
   have f15 := lk S 2 1 rfl rfl
   have f16 := (S.at_ 2 rfl).free 1
   have f17 := lk S 2 2 rfl rfl
   have f18 := (S.at_ 2 rfl).free 2
   have f19 := lk S 2 3 rfl rfl
   have f20 := (S.at_ 2 rfl).free 3
   refine wpAnyL_step (i := 9) (by kernel_rfl) rfl rfl ?_
   intro K hK
   go_simp
   replace S := S.put 2 rfl 0 (.slice Az0 nz0 cz0)
   replace c := st c S (by omega)
   replace S := S.put 2 rfl 1 (.slice Az1 nz1 cz1)
   replace c := st c S (by omega)
   replace S := S.put 2 rfl 2 (.slice Az2 nz2 cz2)
   replace c := st c S (by omega)
   replace S := S.put 2 rfl 3 (.slice Az3 nz3 cz3)
   replace c := st c S (by omega)
   clear HF
   have HF : ((((w7.setCell ⟨w.heap.size + 1 + 1, 0, none⟩ (.slice Az0 nz0 cz0)).setCell ⟨w.heap.size + 1 + 1, 1, none⟩ (.slice Az1 nz1 cz1)).setCell ⟨w.heap.size + 1 + 1, 2, none⟩ (.slice Az2 nz2 cz2)).setCell ⟨w.heap.size + 1 + 1, 3, none⟩ (.slice Az3 nz3 cz3)).cell? ⟨w.heap.size, 0, none⟩ = some (.slice Aa0 na0 ca0) ∧ ((((w7.setCell ⟨w.heap.size + 1 + 1, 0, none⟩ (.slice Az0 nz0 cz0)).setCell ⟨w.heap.size + 1 + 1, 1, none⟩ (.slice Az1 nz1 cz1)).setCell ⟨w.heap.size + 1 + 1, 2, none⟩ (.slice Az2 nz2 cz2)).setCell ⟨w.heap.size + 1 + 1, 3, none⟩ (.slice Az3 nz3 cz3)).cell? ⟨w.heap.size, 1, none⟩ = some (.slice Aa1 na1 ca1) ∧ ((((w7.setCell ⟨w.heap.size + 1 + 1, 0, none⟩ (.slice Az0 nz0 cz0)).setCell ⟨w.heap.size + 1 + 1, 1, none⟩ (.slice Az1 nz1 cz1)).setCell ⟨w.heap.size + 1 + 1, 2, none⟩ (.slice Az2 nz2 cz2)).setCell ⟨w.heap.size + 1 + 1, 3, none⟩ (.slice Az3 nz3 cz3)).cell? ⟨w.heap.size, 2, none⟩ = some (.slice Aa2 na2 ca2) ∧ ((((w7.setCell ⟨w.heap.size + 1 + 1, 0, none⟩ (.slice Az0 nz0 cz0)).setCell ⟨w.heap.size + 1 + 1, 1, none⟩ (.slice Az1 nz1 cz1)).setCell ⟨w.heap.size + 1 + 1, 2, none⟩ (.slice Az2 nz2 cz2)).setCell ⟨w.heap.size + 1 + 1, 3, none⟩ (.slice Az3 nz3 cz3)).cell? ⟨w.heap.size, 3, none⟩ = some (.slice Aa3 na3 ca3) ∧ ((((w7.setCell ⟨w.heap.size + 1 + 1, 0, none⟩ (.slice Az0 nz0 cz0)).setCell ⟨w.heap.size + 1 + 1, 1, none⟩ (.slice Az1 nz1 cz1)).setCell ⟨w.heap.size + 1 + 1, 2, none⟩ (.slice Az2 nz2 cz2)).setCell ⟨w.heap.size + 1 + 1, 3, none⟩ (.slice Az3 nz3 cz3)).cell? ⟨w.heap.size + 1, 0, none⟩ = some (.int .i64 x0) ∧ ((((w7.setCell ⟨w.heap.size + 1 + 1, 0, none⟩ (.slice Az0 nz0 cz0)).setCell ⟨w.heap.size + 1 + 1, 1, none⟩ (.slice Az1 nz1 cz1)).setCell ⟨w.heap.size + 1 + 1, 2, none⟩ (.slice Az2 nz2 cz2)).setCell ⟨w.heap.size + 1 + 1, 3, none⟩ (.slice Az3 nz3 cz3)).cell? ⟨w.heap.size + 1, 1, none⟩ = some (.int .i64 x1) ∧ ((((w7.setCell ⟨w.heap.size + 1 + 1, 0, none⟩ (.slice Az0 nz0 cz0)).setCell ⟨w.heap.size + 1 + 1, 1, none⟩ (.slice Az1 nz1 cz1)).setCell ⟨w.heap.size + 1 + 1, 2, none⟩ (.slice Az2 nz2 cz2)).setCell ⟨w.heap.size + 1 + 1, 3, none⟩ (.slice Az3 nz3 cz3)).cell? ⟨w.heap.size + 1, 2, none⟩ = some (.int .i64 x2) ∧ ((((w7.setCell ⟨w.heap.size + 1 + 1, 0, none⟩ (.slice Az0 nz0 cz0)).setCell ⟨w.heap.size + 1 + 1, 1, none⟩ (.slice Az1 nz1 cz1)).setCell ⟨w.heap.size + 1 + 1, 2, none⟩ (.slice Az2 nz2 cz2)).setCell ⟨w.heap.size + 1 + 1, 3, none⟩ (.slice Az3 nz3 cz3)).cell? ⟨w.heap.size + 1, 3, none⟩ = some (.int .i64 x3) ∧ ((((w7.setCell ⟨w.heap.size + 1 + 1, 0, none⟩ (.slice Az0 nz0 cz0)).setCell ⟨w.heap.size + 1 + 1, 1, none⟩ (.slice Az1 nz1 cz1)).setCell ⟨w.heap.size + 1 + 1, 2, none⟩ (.slice Az2 nz2 cz2)).setCell ⟨w.heap.size + 1 + 1, 3, none⟩ (.slice Az3 nz3 cz3)).cell? ⟨w.heap.size + 1, 4, none⟩ = some (.int .i64 x4) ∧ ((((w7.setCell ⟨w.heap.size + 1 + 1, 0, none⟩ (.slice Az0 nz0 cz0)).setCell ⟨w.heap.size + 1 + 1, 1, none⟩ (.slice Az1 nz1 cz1)).setCell ⟨w.heap.size + 1 + 1, 2, none⟩ (.slice Az2 nz2 cz2)).setCell ⟨w.heap.size + 1 + 1, 3, none⟩ (.slice Az3 nz3 cz3)).cell? ⟨w.heap.size + 1, 5, none⟩ = some (.int .i64 x5) ∧ ((((w7.setCell ⟨w.heap.size + 1 + 1, 0, none⟩ (.slice Az0 nz0 cz0)).setCell ⟨w.heap.size + 1 + 1, 1, none⟩ (.slice Az1 nz1 cz1)).setCell ⟨w.heap.size + 1 + 1, 2, none⟩ (.slice Az2 nz2 cz2)).setCell ⟨w.heap.size + 1 + 1, 3, none⟩ (.slice Az3 nz3 cz3)).cell? ⟨w.heap.size + 1, 6, none⟩ = some (.int .i64 x6) ∧ ((((w7.setCell ⟨w.heap.size + 1 + 1, 0, none⟩ (.slice Az0 nz0 cz0)).setCell ⟨w.heap.size + 1 + 1, 1, none⟩ (.slice Az1 nz1 cz1)).setCell ⟨w.heap.size + 1 + 1, 2, none⟩ (.slice Az2 nz2 cz2)).setCell ⟨w.heap.size + 1 + 1, 3, none⟩ (.slice Az3 nz3 cz3)).cell? ⟨w.heap.size + 1, 7, none⟩ = some (.int .i64 x7) ∧ ((((w7.setCell ⟨w.heap.size + 1 + 1, 0, none⟩ (.slice Az0 nz0 cz0)).setCell ⟨w.heap.size + 1 + 1, 1, none⟩ (.slice Az1 nz1 cz1)).setCell ⟨w.heap.size + 1 + 1, 2, none⟩ (.slice Az2 nz2 cz2)).setCell ⟨w.heap.size + 1 + 1, 3, none⟩ (.slice Az3 nz3 cz3)).cell? ⟨w.heap.size + 1, 8, none⟩ = some (.int .i64 x8) := ⟨(S.at_ 4 rfl).cell 0, (S.at_ 4 rfl).cell 1, (S.at_ 4 rfl).cell 2, (S.at_ 4 rfl).cell 3, (S.at_ 3 rfl).cell 0, (S.at_ 3 rfl).cell 1, (S.at_ 3 rfl).cell 2, (S.at_ 3 rfl).cell 3, (S.at_ 3 rfl).cell 4, (S.at_ 3 rfl).cell 5, (S.at_ 3 rfl).cell 6, (S.at_ 3 rfl).cell 7, (S.at_ 3 rfl).cell 8⟩
   refine hK _ _ (fun _ => HF) ?_
   clear hK K
   try simp only [Act.put]
   generalize hw : (((w7.setCell ⟨w.heap.size + 1 + 1, 0, none⟩ (.slice Az0 nz0 cz0)).setCell ⟨w.heap.size + 1 + 1, 1, none⟩ (.slice Az1 nz1 cz1)).setCell ⟨w.heap.size + 1 + 1, 2, none⟩ (.slice Az2 nz2 cz2)).setCell ⟨w.heap.size + 1 + 1, 3, none⟩ (.slice Az3 nz3 cz3) = w8 at *
   clear hw
   clear f13 f14 f15 f16 f17 f18 f19 f20
   refine wpAnyL_step (i := 10) (by kernel_rfl) rfl rfl ?_
   intro K hK
   go_simp
   refine hK _ _ (fun h => nomatch (show true = false from h)) ?_
   clear hK K
   try simp only [Act.put]
   refine wpAnyL_done (by kernel_rfl) ?_ _
   clear HF
   replace S := S.pick 0 rfl
   have H := jd S.first
   have r0 := jd ((S.at_ 2 rfl).cell 0)
   have r1 := jd ((S.at_ 2 rfl).cell 1)
   have r2 := jd ((S.at_ 2 rfl).cell 2)
   have r3 := jd ((S.at_ 2 rfl).cell 3)
   have CC := jd c
   clear S c
   go_wp2
   exact bodyPost_ret (v := .tuple #[.agg #[.slice Az0 nz0 cz0, .slice Az1 nz1 cz1, .slice Az2 nz2 cz2, .slice Az3 nz3 cz3], .bool (keptEntryM t ⟨x0, x1, x2, x3, x4, x5, x6, x7, x8⟩).2]) (by simp [results, Try.results17, go_sem, r0.out, r1.out, r2.out, r3.out]) rfl ⟨_, _, _, _, _, _, _, _, _, _, _, _, rfl, H.out, CC.out⟩
set_option maxHeartbeats 12800000 in
theorem sKeptHead_any (Aa0 : Option Addr) (na0 ca0 : Nat) (Aa1 : Option Addr) (na1 ca1 : Nat) (Aa2 : Option Addr) (na2 ca2 : Nat) (Aa3 : Option Addr) (na3 ca3 : Nat) (t : TwoM) (x0 x1 x2 : Int) (A : Option Addr) (n cc : Nat) (l : List MarkM) (w : World) (h : Rd w w.heap.size t.cells [.slice Aa0 na0 ca0, .slice Aa1 na1 ca1, .slice Aa2 na2 ca2, .slice Aa3 na3 ca3]) (hs : t.sz ≤ 1048576) (h2 : Rd w w.heap.size [mrkD l] [.slice A n cc]) (hs2 : mrkSz l ≤ 1048576) :
    Calls Try.prog 21 #[.agg #[.slice Aa0 na0 ca0, .slice Aa1 na1 ca1, .slice Aa2 na2 ca2, .slice Aa3 na3 ca3], .agg #[.int .i64 x0, .int .i64 x1, .int .i64 x2, .slice A n cc]] w (MadeTB w (keptHeadM t ⟨x0, x1, x2, l⟩)) := by
 have HH := jd h
 clear h
 have H2 := jd h2
 clear h2
 have S := Sep.nil w w.heap.size
 have c := Below.refl w.heap.size w
 replace S := S.boxAt c.size (w.heap.size) rfl #[.slice Aa0 na0 ca0, .slice Aa1 na1 ca1, .slice Aa2 na2 ca2, .slice Aa3 na3 ca3] 34
 replace c := al c S
 replace S := S.boxAt c.size (w.heap.size + 1) (by simp) #[.int .i64 x0, .int .i64 x1, .int .i64 x2, .slice A n cc] 59
 replace c := al c S
 replace S := S.boxAt c.size (w.heap.size + 1 + 1) (by simp) #[.slice none 0 0, .slice none 0 0, .slice none 0 0, .slice none 0 0] 34
 replace c := al c S
 go_enter Try.func21, Try.ntmps21
 have f0 := lk S 2 0 rfl rfl
 have f1 := lk S 2 1 rfl rfl
 have f2 := lk S 2 2 rfl rfl
 have f3 := lk S 2 3 rfl rfl
 go_wp2_with fail
 generalize ((w.alloc (.cells #[.slice Aa0 na0 ca0, .slice Aa1 na1 ca1, .slice Aa2 na2 ca2, .slice Aa3 na3 ca3] 34)).alloc (.cells #[.int .i64 x0, .int .i64 x1, .int .i64 x2, .slice A n cc] 59)).alloc (.cells #[.slice none 0 0, .slice none 0 0, .slice none 0 0, .slice none 0 0] 34) = w1 at *
 refine (sKeptOk_any Aa0 na0 ca0 Aa1 na1 ca1 Aa2 na2 ca2 Aa3 na3 ca3 t _ _ (HH.out.keep c) c.size (by omega)).mono ?_
 rintro e w2 ⟨rfl, b2⟩
 replace c := c.trans (b2.mono c.size)
 replace S := S.keep b2
 clear b2 f0 f1 f2 f3
 cases hk : keptB t
 case false =>
  have HV := jd (show keptHeadM t ⟨x0, x1, x2, l⟩ = (zeroT, false) by unfold keptHeadM; rw [hk]; rfl)
  clear hk
  have f4 := lk S 0 0 rfl rfl
  have f5 := (S.at_ 0 rfl).free 0
  have f6 := lk S 0 1 rfl rfl
  have f7 := (S.at_ 0 rfl).free 1
  have f8 := lk S 0 2 rfl rfl
  have f9 := (S.at_ 0 rfl).free 2
  have f10 := lk S 0 3 rfl rfl
  have f11 := (S.at_ 0 rfl).free 3
  replace S := S.put 0 rfl 0 (.slice none 0 0)
  replace c := st c S (by omega)
  replace S := S.put 0 rfl 1 (.slice none 0 0)
  replace c := st c S (by omega)
  replace S := S.put 0 rfl 2 (.slice none 0 0)
  replace c := st c S (by omega)
  replace S := S.put 0 rfl 3 (.slice none 0 0)
  replace c := st c S (by omega)
  have H := jd (has_zeroT ((((w2.setCell ⟨w.heap.size + 1 + 1, 0, none⟩ (.slice none 0 0)).setCell ⟨w.heap.size + 1 + 1, 1, none⟩ (.slice none 0 0)).setCell ⟨w.heap.size + 1 + 1, 2, none⟩ (.slice none 0 0)).setCell ⟨w.heap.size + 1 + 1, 3, none⟩ (.slice none 0 0)) w.heap.size)
  have r0 := jd ((S.at_ 0 rfl).cell 0)
  have r1 := jd ((S.at_ 0 rfl).cell 1)
  have r2 := jd ((S.at_ 0 rfl).cell 2)
  have r3 := jd ((S.at_ 0 rfl).cell 3)
  have CC := jd c
  clear S c
  go_wp2
  exact bodyPost_ret (v := .tuple #[.agg #[.slice none 0 0, .slice none 0 0, .slice none 0 0, .slice none 0 0], .bool false]) (by simp [results, Try.results21, go_sem, r0.out, r1.out, r2.out, r3.out]) rfl ⟨_, _, _, _, _, _, _, _, _, _, _, _, by rw [HV.out], by rw [HV.out]; exact H.out, CC.out⟩
 case true =>
  have HKK := jd hk
  have f4 := lk S 1 0 rfl rfl
  have f5 := lk S 1 1 rfl rfl
  have f6 := lk S 1 2 rfl rfl
  have f7 := lk S 1 3 rfl rfl
  go_wp2_with fail
  refine (sHeadOk_any x0 x1 x2 A n cc _ l _ (H2.out.keep c) c.size (by omega)).mono ?_
  rintro e w3 ⟨rfl, b2⟩
  replace c := c.trans (b2.mono c.size)
  replace S := S.keep b2
  clear b2 f4 f5 f6 f7
  cases hok : headOkB ⟨x0, x1, x2, l⟩
  case false =>
   have HV := jd (show keptHeadM t ⟨x0, x1, x2, l⟩ = (t, false) by unfold keptHeadM; rw [if_pos hk, if_neg (by rw [hok]; decide)])
   clear hk hok
   have f8 := lk S 2 0 rfl rfl
   have f9 := lk S 2 1 rfl rfl
   have f10 := lk S 2 2 rfl rfl
   have f11 := lk S 2 3 rfl rfl
   go_wp2_with fail
   refine (sCopyT_any Aa0 na0 ca0 Aa1 na1 ca1 Aa2 na2 ca2 Aa3 na3 ca3 t _ ((HH.out.keep c).up c.size) hs).mono ?_
   rintro e w4 ⟨Au0, nu0, cu0, Au1, nu1, cu1, Au2, nu2, cu2, Au3, nu3, cu3, rfl, o, b⟩
   obtain ⟨fp_u, S'⟩ := S.has b o c.size
   replace c := c.trans (b.mono c.size)
   clear S; have S := S'; clear S' o b f8 f9 f10 f11
   have f12 := lk S 1 0 rfl rfl
   have f13 := (S.at_ 1 rfl).free 0
   have f14 := lk S 1 1 rfl rfl
   have f15 := (S.at_ 1 rfl).free 1
   have f16 := lk S 1 2 rfl rfl
   have f17 := (S.at_ 1 rfl).free 2
   have f18 := lk S 1 3 rfl rfl
   have f19 := (S.at_ 1 rfl).free 3
   replace S := S.put 1 rfl 0 (.slice Au0 nu0 cu0)
   replace c := st c S (by omega)
   replace S := S.put 1 rfl 1 (.slice Au1 nu1 cu1)
   replace c := st c S (by omega)
   replace S := S.put 1 rfl 2 (.slice Au2 nu2 cu2)
   replace c := st c S (by omega)
   replace S := S.put 1 rfl 3 (.slice Au3 nu3 cu3)
   replace c := st c S (by omega)
   replace S := S.pick 0 rfl
   have H := jd (S.first)
   have r0 := jd ((S.at_ 1 rfl).cell 0)
   have r1 := jd ((S.at_ 1 rfl).cell 1)
   have r2 := jd ((S.at_ 1 rfl).cell 2)
   have r3 := jd ((S.at_ 1 rfl).cell 3)
   have CC := jd c
   clear S c
   go_wp2
   exact bodyPost_ret (v := .tuple #[.agg #[.slice Au0 nu0 cu0, .slice Au1 nu1 cu1, .slice Au2 nu2 cu2, .slice Au3 nu3 cu3], .bool false]) (by simp [results, Try.results21, go_sem, r0.out, r1.out, r2.out, r3.out]) rfl ⟨_, _, _, _, _, _, _, _, _, _, _, _, by rw [HV.out], by rw [HV.out]; exact H.out, CC.out⟩
  case true =>
   have HV := jd (show keptHeadM t ⟨x0, x1, x2, l⟩ = bothWrote t (x0 % 2) (headRowM ⟨x0, x1, x2, l⟩) by unfold keptHeadM; rw [if_pos hk, if_pos hok])
   have HRL := jd (headRowM_len ⟨x0, x1, x2, l⟩)
   have hx := ((headOkB_mk x0 x1 x2 l).1 hok).2.1
   have hx1 := ((headOkB_mk x0 x1 x2 l).1 hok).1
   have ht : x0.tmod 2 = x0 % 2 := Int.tmod_eq_emod_of_nonneg (by omega)
   have hw0 : IntKind.i64.wrap (x0 % 2) = x0 % 2 := by rw [IntKind.wrap_i64]; omega
   clear hx hx1
   clear hk hok
   go_wp2_with fail
   refine wp_region_L (fun v => v.cell? ⟨w.heap.size, 0, none⟩ = some (.slice Aa0 na0 ca0) ∧ v.cell? ⟨w.heap.size, 1, none⟩ = some (.slice Aa1 na1 ca1) ∧ v.cell? ⟨w.heap.size, 2, none⟩ = some (.slice Aa2 na2 ca2) ∧ v.cell? ⟨w.heap.size, 3, none⟩ = some (.slice Aa3 na3 ca3) ∧ v.cell? ⟨w.heap.size + 1, 0, none⟩ = some (.int .i64 x0) ∧ v.cell? ⟨w.heap.size + 1, 1, none⟩ = some (.int .i64 x1) ∧ v.cell? ⟨w.heap.size + 1, 2, none⟩ = some (.int .i64 x2) ∧ v.cell? ⟨w.heap.size + 1, 3, none⟩ = some (.slice A n cc)) 10 (by kernel_rfl) ?_
   replace S := S.keep ((Below.refl _ _).drew)
   replace c := c.drew
   generalize w3.drew = w4 at *
   have HF : w4.cell? ⟨w.heap.size, 0, none⟩ = some (.slice Aa0 na0 ca0) ∧ w4.cell? ⟨w.heap.size, 1, none⟩ = some (.slice Aa1 na1 ca1) ∧ w4.cell? ⟨w.heap.size, 2, none⟩ = some (.slice Aa2 na2 ca2) ∧ w4.cell? ⟨w.heap.size, 3, none⟩ = some (.slice Aa3 na3 ca3) ∧ w4.cell? ⟨w.heap.size + 1, 0, none⟩ = some (.int .i64 x0) ∧ w4.cell? ⟨w.heap.size + 1, 1, none⟩ = some (.int .i64 x1) ∧ w4.cell? ⟨w.heap.size + 1, 2, none⟩ = some (.int .i64 x2) ∧ w4.cell? ⟨w.heap.size + 1, 3, none⟩ = some (.slice A n cc) := ⟨(S.at_ 2 rfl).cell 0, (S.at_ 2 rfl).cell 1, (S.at_ 2 rfl).cell 2, (S.at_ 2 rfl).cell 3, (S.at_ 1 rfl).cell 0, (S.at_ 1 rfl).cell 1, (S.at_ 1 rfl).cell 2, (S.at_ 1 rfl).cell 3⟩
   refine tk 0 (v := ?_) rfl rfl HF (.inl ⟨by rfl, ?_⟩) ?_
   rotate_left 1
   · (rintro v ⟨a0, a1, a2, a3, a4, a5, a6, a7⟩; go_simp; try with_reducible rfl)
   try simp only [Act.put]
   refine tk 1 (v := ?_) rfl rfl HF (.inl ⟨by rfl, ?_⟩) ?_
   rotate_left 1
   · (rintro v ⟨a0, a1, a2, a3, a4, a5, a6, a7⟩; go_simp; try with_reducible rfl)
   try simp only [Act.put]
   refine tk 2 (v := ?_) rfl rfl HF (.inl ⟨by rfl, ?_⟩) ?_
   rotate_left 1
   · (rintro v ⟨a0, a1, a2, a3, a4, a5, a6, a7⟩; go_simp; try with_reducible rfl)
   try simp only [Act.put]
   refine tk 3 (v := ?_) rfl rfl HF (.inl ⟨by rfl, ?_⟩) ?_
   rotate_left 1
   · (rintro v ⟨a0, a1, a2, a3, a4, a5, a6, a7⟩; go_simp; try with_reducible rfl)
   try simp only [Act.put]
   refine tk 4 (v := ?_) rfl rfl HF (.inl ⟨by rfl, ?_⟩) ?_
   rotate_left 1
   · (rintro v ⟨a0, a1, a2, a3, a4, a5, a6, a7⟩; go_simp; try with_reducible rfl)
   try simp only [Act.put]
   refine wpAnyL_step (i := 5) (by kernel_rfl) rfl rfl ?_
   intro K hK
   go_simp
   refine (sHeadRow_any x0 x1 x2 A n cc _ l _ (H2.out.keep c) c.size (by omega)).mono ?_
   rintro e w5 ⟨A2, n2, c2, rfl, o, b⟩
   obtain ⟨fp_u, S'⟩ := S.has b o c.size
   replace c := c.trans (b.mono c.size)
   clear S; have S := S'; clear S' o b
   clear HF
   have HF : w5.cell? ⟨w.heap.size, 0, none⟩ = some (.slice Aa0 na0 ca0) ∧ w5.cell? ⟨w.heap.size, 1, none⟩ = some (.slice Aa1 na1 ca1) ∧ w5.cell? ⟨w.heap.size, 2, none⟩ = some (.slice Aa2 na2 ca2) ∧ w5.cell? ⟨w.heap.size, 3, none⟩ = some (.slice Aa3 na3 ca3) ∧ w5.cell? ⟨w.heap.size + 1, 0, none⟩ = some (.int .i64 x0) ∧ w5.cell? ⟨w.heap.size + 1, 1, none⟩ = some (.int .i64 x1) ∧ w5.cell? ⟨w.heap.size + 1, 2, none⟩ = some (.int .i64 x2) ∧ w5.cell? ⟨w.heap.size + 1, 3, none⟩ = some (.slice A n cc) := ⟨(S.at_ 3 rfl).cell 0, (S.at_ 3 rfl).cell 1, (S.at_ 3 rfl).cell 2, (S.at_ 3 rfl).cell 3, (S.at_ 2 rfl).cell 0, (S.at_ 2 rfl).cell 1, (S.at_ 2 rfl).cell 2, (S.at_ 2 rfl).cell 3⟩
   refine hK _ _ (fun _ => HF) ?_
   clear hK K
   try simp only [Act.put]
   refine wpAnyL_step (i := 6) (by kernel_rfl) rfl rfl ?_
   intro K hK
   go_simp
   refine (sBothWrote_any Aa0 na0 ca0 Aa1 na1 ca1 Aa2 na2 ca2 Aa3 na3 ca3 t (x0 % 2) A2 n2 c2 (headRowM ⟨x0, x1, x2, l⟩) _ ((HH.out.keep c).up c.size) hs (S.own_ 0 rfl).rd (by have := HRL.out; omega)).mono ?_
   rintro e w6 ⟨Az0, nz0, cz0, Az1, nz1, cz1, Az2, nz2, cz2, Az3, nz3, cz3, rfl, o, b⟩
   obtain ⟨fp_z, S'⟩ := S.has b o c.size
   replace c := c.trans (b.mono c.size)
   clear S; have S := S'; clear S' o b
   rw [← HV.out] at S ⊢
   clear HF
   have HF : w6.cell? ⟨w.heap.size, 0, none⟩ = some (.slice Aa0 na0 ca0) ∧ w6.cell? ⟨w.heap.size, 1, none⟩ = some (.slice Aa1 na1 ca1) ∧ w6.cell? ⟨w.heap.size, 2, none⟩ = some (.slice Aa2 na2 ca2) ∧ w6.cell? ⟨w.heap.size, 3, none⟩ = some (.slice Aa3 na3 ca3) ∧ w6.cell? ⟨w.heap.size + 1, 0, none⟩ = some (.int .i64 x0) ∧ w6.cell? ⟨w.heap.size + 1, 1, none⟩ = some (.int .i64 x1) ∧ w6.cell? ⟨w.heap.size + 1, 2, none⟩ = some (.int .i64 x2) ∧ w6.cell? ⟨w.heap.size + 1, 3, none⟩ = some (.slice A n cc) := ⟨(S.at_ 4 rfl).cell 0, (S.at_ 4 rfl).cell 1, (S.at_ 4 rfl).cell 2, (S.at_ 4 rfl).cell 3, (S.at_ 3 rfl).cell 0, (S.at_ 3 rfl).cell 1, (S.at_ 3 rfl).cell 2, (S.at_ 3 rfl).cell 3⟩
   refine hK _ _ (fun _ => HF) ?_
   clear hK K
   try simp only [Act.put]
   refine wpAnyL_pure (i := 7) (v := ?_) rfl rfl (by kernel_rfl) (by kernel_rfl) (by kernel_rfl) (fun _ _ _ h => h) HF (Or.inl ⟨by rfl, ?_⟩) ?_
   rotate_left 1
   · (intro v _; go_simp; try with_reducible rfl)
   try simp only [Act.put]
   refine wpAnyL_pure (i := 8) (v := ?_) rfl rfl (by kernel_rfl) (by kernel_rfl) (by kernel_rfl) (fun _ _ _ h => h) HF (Or.inl ⟨by rfl, ?_⟩) ?_
   rotate_left 1
   · (intro v _; go_simp; try with_reducible rfl)
   try simp only [Act.put]
   have f8 := lk S 2 0 rfl rfl
   have f9 := (S.at_ 2 rfl).free 0
   have f10 := lk S 2 1 rfl rfl
   have f11 := (S.at_ 2 rfl).free 1
   have f12 := lk S 2 2 rfl rfl
   have f13 := (S.at_ 2 rfl).free 2
   have f14 := lk S 2 3 rfl rfl
   have f15 := (S.at_ 2 rfl).free 3
   refine wpAnyL_step (i := 9) (by kernel_rfl) rfl rfl ?_
   intro K hK
   go_simp
   replace S := S.put 2 rfl 0 (.slice Az0 nz0 cz0)
   replace c := st c S (by omega)
   replace S := S.put 2 rfl 1 (.slice Az1 nz1 cz1)
   replace c := st c S (by omega)
   replace S := S.put 2 rfl 2 (.slice Az2 nz2 cz2)
   replace c := st c S (by omega)
   replace S := S.put 2 rfl 3 (.slice Az3 nz3 cz3)
   replace c := st c S (by omega)
   clear HF
   have HF : ((((w6.setCell ⟨w.heap.size + 1 + 1, 0, none⟩ (.slice Az0 nz0 cz0)).setCell ⟨w.heap.size + 1 + 1, 1, none⟩ (.slice Az1 nz1 cz1)).setCell ⟨w.heap.size + 1 + 1, 2, none⟩ (.slice Az2 nz2 cz2)).setCell ⟨w.heap.size + 1 + 1, 3, none⟩ (.slice Az3 nz3 cz3)).cell? ⟨w.heap.size, 0, none⟩ = some (.slice Aa0 na0 ca0) ∧ ((((w6.setCell ⟨w.heap.size + 1 + 1, 0, none⟩ (.slice Az0 nz0 cz0)).setCell ⟨w.heap.size + 1 + 1, 1, none⟩ (.slice Az1 nz1 cz1)).setCell ⟨w.heap.size + 1 + 1, 2, none⟩ (.slice Az2 nz2 cz2)).setCell ⟨w.heap.size + 1 + 1, 3, none⟩ (.slice Az3 nz3 cz3)).cell? ⟨w.heap.size, 1, none⟩ = some (.slice Aa1 na1 ca1) ∧ ((((w6.setCell ⟨w.heap.size + 1 + 1, 0, none⟩ (.slice Az0 nz0 cz0)).setCell ⟨w.heap.size + 1 + 1, 1, none⟩ (.slice Az1 nz1 cz1)).setCell ⟨w.heap.size + 1 + 1, 2, none⟩ (.slice Az2 nz2 cz2)).setCell ⟨w.heap.size + 1 + 1, 3, none⟩ (.slice Az3 nz3 cz3)).cell? ⟨w.heap.size, 2, none⟩ = some (.slice Aa2 na2 ca2) ∧ ((((w6.setCell ⟨w.heap.size + 1 + 1, 0, none⟩ (.slice Az0 nz0 cz0)).setCell ⟨w.heap.size + 1 + 1, 1, none⟩ (.slice Az1 nz1 cz1)).setCell ⟨w.heap.size + 1 + 1, 2, none⟩ (.slice Az2 nz2 cz2)).setCell ⟨w.heap.size + 1 + 1, 3, none⟩ (.slice Az3 nz3 cz3)).cell? ⟨w.heap.size, 3, none⟩ = some (.slice Aa3 na3 ca3) ∧ ((((w6.setCell ⟨w.heap.size + 1 + 1, 0, none⟩ (.slice Az0 nz0 cz0)).setCell ⟨w.heap.size + 1 + 1, 1, none⟩ (.slice Az1 nz1 cz1)).setCell ⟨w.heap.size + 1 + 1, 2, none⟩ (.slice Az2 nz2 cz2)).setCell ⟨w.heap.size + 1 + 1, 3, none⟩ (.slice Az3 nz3 cz3)).cell? ⟨w.heap.size + 1, 0, none⟩ = some (.int .i64 x0) ∧ ((((w6.setCell ⟨w.heap.size + 1 + 1, 0, none⟩ (.slice Az0 nz0 cz0)).setCell ⟨w.heap.size + 1 + 1, 1, none⟩ (.slice Az1 nz1 cz1)).setCell ⟨w.heap.size + 1 + 1, 2, none⟩ (.slice Az2 nz2 cz2)).setCell ⟨w.heap.size + 1 + 1, 3, none⟩ (.slice Az3 nz3 cz3)).cell? ⟨w.heap.size + 1, 1, none⟩ = some (.int .i64 x1) ∧ ((((w6.setCell ⟨w.heap.size + 1 + 1, 0, none⟩ (.slice Az0 nz0 cz0)).setCell ⟨w.heap.size + 1 + 1, 1, none⟩ (.slice Az1 nz1 cz1)).setCell ⟨w.heap.size + 1 + 1, 2, none⟩ (.slice Az2 nz2 cz2)).setCell ⟨w.heap.size + 1 + 1, 3, none⟩ (.slice Az3 nz3 cz3)).cell? ⟨w.heap.size + 1, 2, none⟩ = some (.int .i64 x2) ∧ ((((w6.setCell ⟨w.heap.size + 1 + 1, 0, none⟩ (.slice Az0 nz0 cz0)).setCell ⟨w.heap.size + 1 + 1, 1, none⟩ (.slice Az1 nz1 cz1)).setCell ⟨w.heap.size + 1 + 1, 2, none⟩ (.slice Az2 nz2 cz2)).setCell ⟨w.heap.size + 1 + 1, 3, none⟩ (.slice Az3 nz3 cz3)).cell? ⟨w.heap.size + 1, 3, none⟩ = some (.slice A n cc) := ⟨(S.at_ 4 rfl).cell 0, (S.at_ 4 rfl).cell 1, (S.at_ 4 rfl).cell 2, (S.at_ 4 rfl).cell 3, (S.at_ 3 rfl).cell 0, (S.at_ 3 rfl).cell 1, (S.at_ 3 rfl).cell 2, (S.at_ 3 rfl).cell 3⟩
   refine hK _ _ (fun _ => HF) ?_
   clear hK K
   try simp only [Act.put]
   generalize hw : (((w6.setCell ⟨w.heap.size + 1 + 1, 0, none⟩ (.slice Az0 nz0 cz0)).setCell ⟨w.heap.size + 1 + 1, 1, none⟩ (.slice Az1 nz1 cz1)).setCell ⟨w.heap.size + 1 + 1, 2, none⟩ (.slice Az2 nz2 cz2)).setCell ⟨w.heap.size + 1 + 1, 3, none⟩ (.slice Az3 nz3 cz3) = w7 at *
   clear hw
   clear f8 f9 f10 f11 f12 f13 f14 f15
   refine wpAnyL_step (i := 10) (by kernel_rfl) rfl rfl ?_
   intro K hK
   go_simp
   refine hK _ _ (fun h => nomatch (show true = false from h)) ?_
   clear hK K
   try simp only [Act.put]
   refine wpAnyL_done (by kernel_rfl) ?_ _
   clear HF
   replace S := S.pick 0 rfl
   have H := jd S.first
   have r0 := jd ((S.at_ 2 rfl).cell 0)
   have r1 := jd ((S.at_ 2 rfl).cell 1)
   have r2 := jd ((S.at_ 2 rfl).cell 2)
   have r3 := jd ((S.at_ 2 rfl).cell 3)
   have CC := jd c
   clear S c
   go_wp2
   exact bodyPost_ret (v := .tuple #[.agg #[.slice Az0 nz0 cz0, .slice Az1 nz1 cz1, .slice Az2 nz2 cz2, .slice Az3 nz3 cz3], .bool (keptHeadM t ⟨x0, x1, x2, l⟩).2]) (by simp [results, Try.results21, go_sem, r0.out, r1.out, r2.out, r3.out]) rfl ⟨_, _, _, _, _, _, _, _, _, _, _, _, rfl, H.out, CC.out⟩
end Go.Proofs.Ytecihkkagpbkdaa
