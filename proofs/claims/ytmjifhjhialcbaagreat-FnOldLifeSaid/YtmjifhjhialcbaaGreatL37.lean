/- Parts of my texts: RecI4 RecIC. -/
import Derived.Test.YtmjifhjhialcbaaGreatL36
namespace Go.Proofs.YtmjifhjhialcbaaGreat
set_option maxRecDepth 100000
set_option linter.unusedVariables false
open Go.RowKit
theorem iHeadIn_at (Aa0 : Option Addr) (na0 ca0 : Nat) (Aa1 : Option Addr) (na1 ca1 : Nat) (Aa2 : Option Addr) (na2 ca2 : Nat) (Aa3 : Option Addr) (na3 ca3 : Nat) (t : TwoM) (w : World) (h : Rd w w.heap.size t.cells [.slice Aa0 na0 ca0, .slice Aa1 na1 ca1, .slice Aa2 na2 ca2, .slice Aa3 na3 ca3]) (hs : t.sz ≤ 1048576) :
    Calls Tryz.prog 60 #[.agg #[.slice Aa0 na0 ca0, .slice Aa1 na1 ca1, .slice Aa2 na2 ca2, .slice Aa3 na3 ca3]] w fun e w' => ∃ (z0 z1 z2 : Int) (lz : List MarkM) (ob : Bool) (A2 : Option Addr) (n2 c2 : Nat), headInM t = (⟨z0, z1, z2, lz⟩, ob) ∧ e = .returned (.tuple #[.agg #[.int .i64 z0, .int .i64 z1, .int .i64 z2, .slice A2 n2 c2], .bool ob]) ∧ Has w' w.heap.size [mrkD lz] [.slice A2 n2 c2] ∧ Below w.heap.size w w' := by
 refine (iHeadIn_any Aa0 na0 ca0 Aa1 na1 ca1 Aa2 na2 ca2 Aa3 na3 ca3 t w h hs).mono ?_
 rintro e w' ⟨z0, z1, z2, A2, n2, c2, rfl, o, b⟩
 obtain ⟨e0, e1, e2, o3⟩ := o.headT
 injection e0 with _ e0
 injection e1 with _ e1
 injection e2 with _ e2
 exact ⟨(headInM t).1.num, (headInM t).1.base, (headInM t).1.tm, (headInM t).1.seen, (headInM t).2, A2, n2, c2, rfl, by rw [e0, e1, e2], o3, b⟩
theorem synced_szR (t : TwoM) : (bothSynced t).sz ≤ 1048576 := by
 unfold bothSynced
 split
 next h => exact Nat.le_trans (show TwoM.sz ⟨synced t.a, synced t.b⟩ ≤ 9800 by have h9 := ok_two_sz (bothSynced_ok h); unfold bothSynced at h9; rw [if_pos h] at h9; exact h9) (by decide)
 next => decide
set_option maxHeartbeats 25600000 in
theorem iRecovered_any (Aa0 : Option Addr) (na0 ca0 : Nat) (Aa1 : Option Addr) (na1 ca1 : Nat) (Aa2 : Option Addr) (na2 ca2 : Nat) (Aa3 : Option Addr) (na3 ca3 : Nat) (t : TwoM) (w : World) (h : Rd w w.heap.size t.cells [.slice Aa0 na0 ca0, .slice Aa1 na1 ca1, .slice Aa2 na2 ca2, .slice Aa3 na3 ca3]) (hs : t.sz ≤ 1048576) :
    Calls Tryz.prog 17 #[.agg #[.slice Aa0 na0 ca0, .slice Aa1 na1 ca1, .slice Aa2 na2 ca2, .slice Aa3 na3 ca3]] w (MadeR1 w (recoveredM t)) := by
 have HH := jd h
 have HSZ := jd (synced_szR t)
 clear h
 have S := Sep.nil w w.heap.size
 have c := Below.refl w.heap.size w
 replace S := S.boxAt c.size (w.heap.size) rfl #[.slice Aa0 na0 ca0, .slice Aa1 na1 ca1, .slice Aa2 na2 ca2, .slice Aa3 na3 ca3] 35
 replace c := al c S
 replace S := S.boxAt c.size (w.heap.size + 1) (by simp) #[.slice none 0 0, .slice none 0 0, .slice none 0 0, .slice none 0 0] 35
 replace c := al c S
 replace S := S.boxAt c.size (w.heap.size + 1 + 1) (by simp) #[.int .i64 0, .int .i64 0, .int .i64 0, .slice none 0 0] 45
 replace c := al c S
 replace S := S.boxAt c.size (w.heap.size + 1 + 1 + 1) (by simp) #[.int .i64 0, .int .i64 0, .slice none 0 0] 47
 replace c := al c S
 go_enter Tryz.func17, Tryz.ntmps17
 have f0 := lk S 3 0 rfl rfl
 have f1 := lk S 3 1 rfl rfl
 have f2 := lk S 3 2 rfl rfl
 have f3 := lk S 3 3 rfl rfl
 go_wp2_with fail
 generalize (((w.alloc (.cells #[.slice Aa0 na0 ca0, .slice Aa1 na1 ca1, .slice Aa2 na2 ca2, .slice Aa3 na3 ca3] 35)).alloc (.cells #[.slice none 0 0, .slice none 0 0, .slice none 0 0, .slice none 0 0] 35)).alloc (.cells #[.int .i64 0, .int .i64 0, .int .i64 0, .slice none 0 0] 45)).alloc (.cells #[.int .i64 0, .int .i64 0, .slice none 0 0] 47) = w1 at *
 refine (iBothSynced_any Aa0 na0 ca0 Aa1 na1 ca1 Aa2 na2 ca2 Aa3 na3 ca3 t _ ((HH.out.keep c).up c.size) hs).mono ?_
 rintro e w2 ⟨Au0, nu0, cu0, Au1, nu1, cu1, Au2, nu2, cu2, Au3, nu3, cu3, rfl, o, b⟩
 obtain ⟨fp_u, S'⟩ := S.has b o c.size
 replace c := c.trans (b.mono c.size)
 clear S; have S := S'; clear S' o b f0 f1 f2 f3
 replace S := S.boxAt c.size (w2.heap.size) rfl #[.slice Au0 nu0 cu0, .slice Au1 nu1 cu1, .slice Au2 nu2 cu2, .slice Au3 nu3 cu3] 35
 replace c := al c S
 have f4 := lk S 0 0 rfl rfl
 have f5 := lk S 0 1 rfl rfl
 have f6 := lk S 0 2 rfl rfl
 have f7 := lk S 0 3 rfl rfl
 go_wp2_with fail
 generalize w2.alloc (.cells #[.slice Au0 nu0 cu0, .slice Au1 nu1 cu1, .slice Au2 nu2 cu2, .slice Au3 nu3 cu3] 35) = w3 at *
 obtain ⟨qs, hqs⟩ : ∃ q, q = w2.heap.size := ⟨_, rfl⟩
 rw [← hqs] at S ⊢
 clear hqs
 clear f4 f5 f6 f7
 refine (iHeadIn_at Au0 nu0 cu0 Au1 nu1 cu1 Au2 nu2 cu2 Au3 nu3 cu3 (bothSynced t) _ (S.own_ 1 rfl).rd HSZ.out).mono ?_
 rintro e w4 ⟨z0, z1, z2, lz, ob, A2, n2, c2, hh, rfl, o, b⟩
 obtain ⟨fp_sd, S'⟩ := S.has b o c.size
 replace c := c.trans (b.mono c.size)
 clear S; have S := S'; clear S' o b
 rw [headIn_synced] at hh
 have HHI := jd hh
 clear hh
 replace S := S.boxAt c.size (w4.heap.size) rfl #[.int .i64 z0, .int .i64 z1, .int .i64 z2, .slice A2 n2 c2] 45
 replace c := al c S
 cases ob
 case false =>
  have HV := jd (show recoveredM t = ⟨zeroT, headZ, book0, false⟩ by unfold recoveredM; exact if_neg (by rw [HHI.out]; exact Bool.false_ne_true))
  clear HHI
  have f8 := lk S 6 0 rfl rfl
  have f9 := (S.at_ 6 rfl).free 0
  have f10 := lk S 6 1 rfl rfl
  have f11 := (S.at_ 6 rfl).free 1
  have f12 := lk S 6 2 rfl rfl
  have f13 := (S.at_ 6 rfl).free 2
  have f14 := lk S 6 3 rfl rfl
  have f15 := (S.at_ 6 rfl).free 3
  replace S := S.put 6 rfl 0 (.slice none 0 0)
  replace c := st c S (by omega)
  replace S := S.put 6 rfl 1 (.slice none 0 0)
  replace c := st c S (by omega)
  replace S := S.put 6 rfl 2 (.slice none 0 0)
  replace c := st c S (by omega)
  replace S := S.put 6 rfl 3 (.slice none 0 0)
  replace c := st c S (by omega)
  have f16 := lk S 5 0 rfl rfl
  have f17 := (S.at_ 5 rfl).free 0
  have f18 := lk S 5 1 rfl rfl
  have f19 := (S.at_ 5 rfl).free 1
  have f20 := lk S 5 2 rfl rfl
  have f21 := (S.at_ 5 rfl).free 2
  have f22 := lk S 5 3 rfl rfl
  have f23 := (S.at_ 5 rfl).free 3
  replace S := S.put 5 rfl 0 (.int .i64 0)
  replace c := st c S (by omega)
  replace S := S.put 5 rfl 1 (.int .i64 0)
  replace c := st c S (by omega)
  replace S := S.put 5 rfl 2 (.int .i64 0)
  replace c := st c S (by omega)
  replace S := S.put 5 rfl 3 (.slice none 0 0)
  replace c := st c S (by omega)
  have f24 := lk S 4 0 rfl rfl
  have f25 := (S.at_ 4 rfl).free 0
  have f26 := lk S 4 1 rfl rfl
  have f27 := (S.at_ 4 rfl).free 1
  have f28 := lk S 4 2 rfl rfl
  have f29 := (S.at_ 4 rfl).free 2
  replace S := S.put 4 rfl 0 (.int .i64 0)
  replace c := st c S (by omega)
  replace S := S.put 4 rfl 1 (.int .i64 0)
  replace c := st c S (by omega)
  replace S := S.put 4 rfl 2 (.slice none 0 0)
  replace c := st c S (by omega)
  have r0 := jd ((S.at_ 6 rfl).cell 0)
  have r1 := jd ((S.at_ 6 rfl).cell 1)
  have r2 := jd ((S.at_ 6 rfl).cell 2)
  have r3 := jd ((S.at_ 6 rfl).cell 3)
  have r4 := jd ((S.at_ 5 rfl).cell 0)
  have r5 := jd ((S.at_ 5 rfl).cell 1)
  have r6 := jd ((S.at_ 5 rfl).cell 2)
  have r7 := jd ((S.at_ 5 rfl).cell 3)
  have r8 := jd ((S.at_ 4 rfl).cell 0)
  have r9 := jd ((S.at_ 4 rfl).cell 1)
  have r10 := jd ((S.at_ 4 rfl).cell 2)
  have CC := jd c
  clear S c
  go_wp2
  exact bodyPost_ret (v := .tuple #[.agg #[.slice none 0 0, .slice none 0 0, .slice none 0 0, .slice none 0 0], .agg #[.int .i64 0, .int .i64 0, .int .i64 0, .slice none 0 0], .agg #[.int .i64 0, .int .i64 0, .slice none 0 0], .bool false]) (by simp [results, Tryz.results17, go_sem, r0.out, r1.out, r2.out, r3.out, r4.out, r5.out, r6.out, r7.out, r8.out, r9.out, r10.out]) rfl ⟨_, _, _, _, _, _, _, _, _, _, _, _, _, _, _, _, _, _, _, _, _, _, _, by rw [HV.out], by rw [HV.out]; exact has_recZ _ _, CC.out⟩
 case true =>
  have hho : keptB t = true ∧ headOkB ⟨z0, z1, z2, lz⟩ = true := headIn_good HHI.out
  have HKO := jd hho
  have HLZ := jd (show mrkSz lz ≤ 1048576 from Nat.le_trans (seen_len ((headOkB_iff _).1 hho.2).2.2.2.2.1) (by decide))
  clear hho
  have f8 := lk S 2 0 rfl rfl
  have f9 := lk S 2 1 rfl rfl
  have f10 := lk S 2 2 rfl rfl
  have f11 := lk S 2 3 rfl rfl
  have f12 := lk S 0 0 rfl rfl
  have f13 := lk S 0 1 rfl rfl
  have f14 := lk S 0 2 rfl rfl
  have f15 := lk S 0 3 rfl rfl
  go_wp2_with fail
  generalize w4.alloc (.cells #[.int .i64 z0, .int .i64 z1, .int .i64 z2, .slice A2 n2 c2] 45) = w5 at *
  obtain ⟨qh, hqh⟩ : ∃ q, q = w4.heap.size := ⟨_, rfl⟩
  rw [← hqh] at S ⊢
  clear hqh
  clear f8 f9 f10 f11 f12 f13 f14 f15
  refine (iBookIn_any Au0 nu0 cu0 Au1 nu1 cu1 Au2 nu2 cu2 Au3 nu3 cu3 (bothSynced t) z0 z1 z2 A2 n2 c2 lz _ (S.own_ 3 rfl).rd HSZ.out (S.own_ 1 rfl).rd HLZ.out).mono ?_
  rintro e w6 ⟨y0, y1, Ay, ny, cy, rfl, o, b⟩
  rw [bookIn_synced] at o
  obtain ⟨hy0, hy1, o⟩ := has_split o
  obtain ⟨bk, hbk⟩ : ∃ bk, bk = bookInM t ⟨z0, z1, z2, lz⟩ := ⟨_, rfl⟩
  rw [← hbk] at hy0 hy1 o
  obtain ⟨fp_y, S'⟩ := S.has b o c.size
  replace c := c.trans (b.mono c.size)
  have HBK := jd hbk
  have HGB := jd (show bookB bk = true by rw [hbk]; exact (bookIn_ok HKO.out.1 HKO.out.2).1)
  subst hy0 hy1
  clear hbk
  clear S; have S := S'; clear S' o b
  replace S := S.boxAt c.size (w6.heap.size) rfl #[.int .i64 bk.base, .int .i64 bk.tm, .slice Ay ny cy] 47
  replace c := al c S
  go_wp2_with fail
  generalize w6.alloc (.cells #[.int .i64 bk.base, .int .i64 bk.tm, .slice Ay ny cy] 47) = w7 at *
  obtain ⟨qb, hqb⟩ : ∃ q, q = w6.heap.size := ⟨_, rfl⟩
  rw [← hqb] at S ⊢
  clear hqb
  have HRV := jd (show recoveredM t = ⟨mendTo (bothSynced t) (rowsOf ⟨z0, z1, z2, lz⟩ bk) 22, ⟨z0, z1, z2, lz⟩, bk, true⟩ by unfold recoveredM recTwo; rw [if_pos (by rw [HHI.out]), HHI.out, ← HBK.out])
  refine wp_region_L (fun v => v.cell? ⟨qs, 0, none⟩ = some (.slice Au0 nu0 cu0) ∧ v.cell? ⟨qs, 1, none⟩ = some (.slice Au1 nu1 cu1) ∧ v.cell? ⟨qs, 2, none⟩ = some (.slice Au2 nu2 cu2) ∧ v.cell? ⟨qs, 3, none⟩ = some (.slice Au3 nu3 cu3) ∧ v.cell? ⟨qh, 0, none⟩ = some (.int .i64 z0) ∧ v.cell? ⟨qh, 1, none⟩ = some (.int .i64 z1) ∧ v.cell? ⟨qh, 2, none⟩ = some (.int .i64 z2) ∧ v.cell? ⟨qh, 3, none⟩ = some (.slice A2 n2 c2) ∧ v.cell? ⟨qb, 0, none⟩ = some (.int .i64 bk.base) ∧ v.cell? ⟨qb, 1, none⟩ = some (.int .i64 bk.tm) ∧ v.cell? ⟨qb, 2, none⟩ = some (.slice Ay ny cy)) 9 (by kernel_rfl) ?_
  replace S := S.keep ((Below.refl _ _).drew)
  replace c := c.drew
  generalize w7.drew = w8 at *
  have HF : w8.cell? ⟨qs, 0, none⟩ = some (.slice Au0 nu0 cu0) ∧ w8.cell? ⟨qs, 1, none⟩ = some (.slice Au1 nu1 cu1) ∧ w8.cell? ⟨qs, 2, none⟩ = some (.slice Au2 nu2 cu2) ∧ w8.cell? ⟨qs, 3, none⟩ = some (.slice Au3 nu3 cu3) ∧ w8.cell? ⟨qh, 0, none⟩ = some (.int .i64 z0) ∧ w8.cell? ⟨qh, 1, none⟩ = some (.int .i64 z1) ∧ w8.cell? ⟨qh, 2, none⟩ = some (.int .i64 z2) ∧ w8.cell? ⟨qh, 3, none⟩ = some (.slice A2 n2 c2) ∧ w8.cell? ⟨qb, 0, none⟩ = some (.int .i64 bk.base) ∧ w8.cell? ⟨qb, 1, none⟩ = some (.int .i64 bk.tm) ∧ w8.cell? ⟨qb, 2, none⟩ = some (.slice Ay ny cy) := ⟨(S.at_ 4 rfl).cell 0, (S.at_ 4 rfl).cell 1, (S.at_ 4 rfl).cell 2, (S.at_ 4 rfl).cell 3, (S.at_ 2 rfl).cell 0, (S.at_ 2 rfl).cell 1, (S.at_ 2 rfl).cell 2, (S.at_ 2 rfl).cell 3, (S.at_ 0 rfl).cell 0, (S.at_ 0 rfl).cell 1, (S.at_ 0 rfl).cell 2⟩
  refine tk 0 (v := ?_) rfl rfl HF (.inl ⟨by rfl, ?_⟩) ?_
  rotate_left 1
  · (rintro v ⟨a0, a1, a2, a3, a4, a5, a6, a7, a8, a9, a10⟩; go_simp; try with_reducible rfl)
  try simp only [Act.put]
  refine tk 1 (v := ?_) rfl rfl HF (.inl ⟨by rfl, ?_⟩) ?_
  rotate_left 1
  · (rintro v ⟨a0, a1, a2, a3, a4, a5, a6, a7, a8, a9, a10⟩; go_simp; try with_reducible rfl)
  try simp only [Act.put]
  refine tk 2 (v := ?_) rfl rfl HF (.inl ⟨by rfl, ?_⟩) ?_
  rotate_left 1
  · (rintro v ⟨a0, a1, a2, a3, a4, a5, a6, a7, a8, a9, a10⟩; go_simp; try with_reducible rfl)
  try simp only [Act.put]
  refine tk 4 (v := ?_) rfl rfl HF (.inl ⟨by rfl, ?_⟩) ?_
  rotate_left 1
  · (rintro v ⟨a0, a1, a2, a3, a4, a5, a6, a7, a8, a9, a10⟩; go_simp; try with_reducible rfl)
  try simp only [Act.put]
  refine tk 5 (v := ?_) rfl rfl HF (.inl ⟨by rfl, ?_⟩) ?_
  rotate_left 1
  · (rintro v ⟨a0, a1, a2, a3, a4, a5, a6, a7, a8, a9, a10⟩; go_simp; try with_reducible rfl)
  try simp only [Act.put]
  refine wpAnyL_step (i := 3) (by kernel_rfl) rfl rfl ?_
  intro K hK
  go_simp
  refine (iRewritten_any Au0 nu0 cu0 Au1 nu1 cu1 Au2 nu2 cu2 Au3 nu3 cu3 (bothSynced t) z0 z1 z2 A2 n2 c2 lz bk Ay ny cy _ (S.own_ 5 rfl).rd (by rw [kept_synced]; exact HKO.out.1) (S.own_ 3 rfl).rd HKO.out.2 (S.own_ 1 rfl).rd HGB.out).mono ?_
  rintro e w9 ⟨Ap0, np0, cp0, Ap1, np1, cp1, Ap2, np2, cp2, Ap3, np3, cp3, rfl, o, b⟩
  obtain ⟨fp_p, S'⟩ := S.has b o c.size
  replace c := c.trans (b.mono c.size)
  clear S; have S := S'; clear S' o b
  obtain ⟨TR, hTR⟩ : ∃ T, T = mendTo (bothSynced t) (rowsOf ⟨z0, z1, z2, lz⟩ bk) 22 := ⟨_, rfl⟩
  rw [← hTR] at S HRV
  clear hTR
  clear HF
  have HF : w9.cell? ⟨qs, 0, none⟩ = some (.slice Au0 nu0 cu0) ∧ w9.cell? ⟨qs, 1, none⟩ = some (.slice Au1 nu1 cu1) ∧ w9.cell? ⟨qs, 2, none⟩ = some (.slice Au2 nu2 cu2) ∧ w9.cell? ⟨qs, 3, none⟩ = some (.slice Au3 nu3 cu3) ∧ w9.cell? ⟨qh, 0, none⟩ = some (.int .i64 z0) ∧ w9.cell? ⟨qh, 1, none⟩ = some (.int .i64 z1) ∧ w9.cell? ⟨qh, 2, none⟩ = some (.int .i64 z2) ∧ w9.cell? ⟨qh, 3, none⟩ = some (.slice A2 n2 c2) ∧ w9.cell? ⟨qb, 0, none⟩ = some (.int .i64 bk.base) ∧ w9.cell? ⟨qb, 1, none⟩ = some (.int .i64 bk.tm) ∧ w9.cell? ⟨qb, 2, none⟩ = some (.slice Ay ny cy) := ⟨(S.at_ 5 rfl).cell 0, (S.at_ 5 rfl).cell 1, (S.at_ 5 rfl).cell 2, (S.at_ 5 rfl).cell 3, (S.at_ 3 rfl).cell 0, (S.at_ 3 rfl).cell 1, (S.at_ 3 rfl).cell 2, (S.at_ 3 rfl).cell 3, (S.at_ 1 rfl).cell 0, (S.at_ 1 rfl).cell 1, (S.at_ 1 rfl).cell 2⟩
  refine hK _ _ (fun _ => HF) ?_
  clear hK K
  try simp only [Act.put]
  have f16 := lk S 9 0 rfl rfl
  have f17 := (S.at_ 9 rfl).free 0
  have f18 := lk S 9 1 rfl rfl
  have f19 := (S.at_ 9 rfl).free 1
  have f20 := lk S 9 2 rfl rfl
  have f21 := (S.at_ 9 rfl).free 2
  have f22 := lk S 9 3 rfl rfl
  have f23 := (S.at_ 9 rfl).free 3
  refine wpAnyL_step (i := 6) (by kernel_rfl) rfl rfl ?_
  intro K hK
  go_simp
  replace S := S.put 9 rfl 0 (.slice Ap0 np0 cp0)
  replace c := st c S (by omega)
  replace S := S.put 9 rfl 1 (.slice Ap1 np1 cp1)
  replace c := st c S (by omega)
  replace S := S.put 9 rfl 2 (.slice Ap2 np2 cp2)
  replace c := st c S (by omega)
  replace S := S.put 9 rfl 3 (.slice Ap3 np3 cp3)
  replace c := st c S (by omega)
  clear HF
  have HF : ((((w9.setCell ⟨w.heap.size + 1, 0, none⟩ (.slice Ap0 np0 cp0)).setCell ⟨w.heap.size + 1, 1, none⟩ (.slice Ap1 np1 cp1)).setCell ⟨w.heap.size + 1, 2, none⟩ (.slice Ap2 np2 cp2)).setCell ⟨w.heap.size + 1, 3, none⟩ (.slice Ap3 np3 cp3)).cell? ⟨qs, 0, none⟩ = some (.slice Au0 nu0 cu0) ∧ ((((w9.setCell ⟨w.heap.size + 1, 0, none⟩ (.slice Ap0 np0 cp0)).setCell ⟨w.heap.size + 1, 1, none⟩ (.slice Ap1 np1 cp1)).setCell ⟨w.heap.size + 1, 2, none⟩ (.slice Ap2 np2 cp2)).setCell ⟨w.heap.size + 1, 3, none⟩ (.slice Ap3 np3 cp3)).cell? ⟨qs, 1, none⟩ = some (.slice Au1 nu1 cu1) ∧ ((((w9.setCell ⟨w.heap.size + 1, 0, none⟩ (.slice Ap0 np0 cp0)).setCell ⟨w.heap.size + 1, 1, none⟩ (.slice Ap1 np1 cp1)).setCell ⟨w.heap.size + 1, 2, none⟩ (.slice Ap2 np2 cp2)).setCell ⟨w.heap.size + 1, 3, none⟩ (.slice Ap3 np3 cp3)).cell? ⟨qs, 2, none⟩ = some (.slice Au2 nu2 cu2) ∧ ((((w9.setCell ⟨w.heap.size + 1, 0, none⟩ (.slice Ap0 np0 cp0)).setCell ⟨w.heap.size + 1, 1, none⟩ (.slice Ap1 np1 cp1)).setCell ⟨w.heap.size + 1, 2, none⟩ (.slice Ap2 np2 cp2)).setCell ⟨w.heap.size + 1, 3, none⟩ (.slice Ap3 np3 cp3)).cell? ⟨qs, 3, none⟩ = some (.slice Au3 nu3 cu3) ∧ ((((w9.setCell ⟨w.heap.size + 1, 0, none⟩ (.slice Ap0 np0 cp0)).setCell ⟨w.heap.size + 1, 1, none⟩ (.slice Ap1 np1 cp1)).setCell ⟨w.heap.size + 1, 2, none⟩ (.slice Ap2 np2 cp2)).setCell ⟨w.heap.size + 1, 3, none⟩ (.slice Ap3 np3 cp3)).cell? ⟨qh, 0, none⟩ = some (.int .i64 z0) ∧ ((((w9.setCell ⟨w.heap.size + 1, 0, none⟩ (.slice Ap0 np0 cp0)).setCell ⟨w.heap.size + 1, 1, none⟩ (.slice Ap1 np1 cp1)).setCell ⟨w.heap.size + 1, 2, none⟩ (.slice Ap2 np2 cp2)).setCell ⟨w.heap.size + 1, 3, none⟩ (.slice Ap3 np3 cp3)).cell? ⟨qh, 1, none⟩ = some (.int .i64 z1) ∧ ((((w9.setCell ⟨w.heap.size + 1, 0, none⟩ (.slice Ap0 np0 cp0)).setCell ⟨w.heap.size + 1, 1, none⟩ (.slice Ap1 np1 cp1)).setCell ⟨w.heap.size + 1, 2, none⟩ (.slice Ap2 np2 cp2)).setCell ⟨w.heap.size + 1, 3, none⟩ (.slice Ap3 np3 cp3)).cell? ⟨qh, 2, none⟩ = some (.int .i64 z2) ∧ ((((w9.setCell ⟨w.heap.size + 1, 0, none⟩ (.slice Ap0 np0 cp0)).setCell ⟨w.heap.size + 1, 1, none⟩ (.slice Ap1 np1 cp1)).setCell ⟨w.heap.size + 1, 2, none⟩ (.slice Ap2 np2 cp2)).setCell ⟨w.heap.size + 1, 3, none⟩ (.slice Ap3 np3 cp3)).cell? ⟨qh, 3, none⟩ = some (.slice A2 n2 c2) ∧ ((((w9.setCell ⟨w.heap.size + 1, 0, none⟩ (.slice Ap0 np0 cp0)).setCell ⟨w.heap.size + 1, 1, none⟩ (.slice Ap1 np1 cp1)).setCell ⟨w.heap.size + 1, 2, none⟩ (.slice Ap2 np2 cp2)).setCell ⟨w.heap.size + 1, 3, none⟩ (.slice Ap3 np3 cp3)).cell? ⟨qb, 0, none⟩ = some (.int .i64 bk.base) ∧ ((((w9.setCell ⟨w.heap.size + 1, 0, none⟩ (.slice Ap0 np0 cp0)).setCell ⟨w.heap.size + 1, 1, none⟩ (.slice Ap1 np1 cp1)).setCell ⟨w.heap.size + 1, 2, none⟩ (.slice Ap2 np2 cp2)).setCell ⟨w.heap.size + 1, 3, none⟩ (.slice Ap3 np3 cp3)).cell? ⟨qb, 1, none⟩ = some (.int .i64 bk.tm) ∧ ((((w9.setCell ⟨w.heap.size + 1, 0, none⟩ (.slice Ap0 np0 cp0)).setCell ⟨w.heap.size + 1, 1, none⟩ (.slice Ap1 np1 cp1)).setCell ⟨w.heap.size + 1, 2, none⟩ (.slice Ap2 np2 cp2)).setCell ⟨w.heap.size + 1, 3, none⟩ (.slice Ap3 np3 cp3)).cell? ⟨qb, 2, none⟩ = some (.slice Ay ny cy) := ⟨(S.at_ 5 rfl).cell 0, (S.at_ 5 rfl).cell 1, (S.at_ 5 rfl).cell 2, (S.at_ 5 rfl).cell 3, (S.at_ 3 rfl).cell 0, (S.at_ 3 rfl).cell 1, (S.at_ 3 rfl).cell 2, (S.at_ 3 rfl).cell 3, (S.at_ 1 rfl).cell 0, (S.at_ 1 rfl).cell 1, (S.at_ 1 rfl).cell 2⟩
  refine hK _ _ (fun _ => HF) ?_
  clear hK K
  try simp only [Act.put]
  generalize hw : (((w9.setCell ⟨w.heap.size + 1, 0, none⟩ (.slice Ap0 np0 cp0)).setCell ⟨w.heap.size + 1, 1, none⟩ (.slice Ap1 np1 cp1)).setCell ⟨w.heap.size + 1, 2, none⟩ (.slice Ap2 np2 cp2)).setCell ⟨w.heap.size + 1, 3, none⟩ (.slice Ap3 np3 cp3) = w10 at *
  clear hw
  clear f16 f17 f18 f19 f20 f21 f22 f23
  have f24 := lk S 8 0 rfl rfl
  have f25 := (S.at_ 8 rfl).free 0
  have f26 := lk S 8 1 rfl rfl
  have f27 := (S.at_ 8 rfl).free 1
  have f28 := lk S 8 2 rfl rfl
  have f29 := (S.at_ 8 rfl).free 2
  have f30 := lk S 8 3 rfl rfl
  have f31 := (S.at_ 8 rfl).free 3
  refine wpAnyL_step (i := 7) (by kernel_rfl) rfl rfl ?_
  intro K hK
  go_simp
  replace S := S.put 8 rfl 0 (.int .i64 z0)
  replace c := st c S (by omega)
  replace S := S.put 8 rfl 1 (.int .i64 z1)
  replace c := st c S (by omega)
  replace S := S.put 8 rfl 2 (.int .i64 z2)
  replace c := st c S (by omega)
  replace S := S.put 8 rfl 3 (.slice A2 n2 c2)
  replace c := st c S (by omega)
  clear HF
  have HF : ((((w10.setCell ⟨w.heap.size + 1 + 1, 0, none⟩ (.int .i64 z0)).setCell ⟨w.heap.size + 1 + 1, 1, none⟩ (.int .i64 z1)).setCell ⟨w.heap.size + 1 + 1, 2, none⟩ (.int .i64 z2)).setCell ⟨w.heap.size + 1 + 1, 3, none⟩ (.slice A2 n2 c2)).cell? ⟨qs, 0, none⟩ = some (.slice Au0 nu0 cu0) ∧ ((((w10.setCell ⟨w.heap.size + 1 + 1, 0, none⟩ (.int .i64 z0)).setCell ⟨w.heap.size + 1 + 1, 1, none⟩ (.int .i64 z1)).setCell ⟨w.heap.size + 1 + 1, 2, none⟩ (.int .i64 z2)).setCell ⟨w.heap.size + 1 + 1, 3, none⟩ (.slice A2 n2 c2)).cell? ⟨qs, 1, none⟩ = some (.slice Au1 nu1 cu1) ∧ ((((w10.setCell ⟨w.heap.size + 1 + 1, 0, none⟩ (.int .i64 z0)).setCell ⟨w.heap.size + 1 + 1, 1, none⟩ (.int .i64 z1)).setCell ⟨w.heap.size + 1 + 1, 2, none⟩ (.int .i64 z2)).setCell ⟨w.heap.size + 1 + 1, 3, none⟩ (.slice A2 n2 c2)).cell? ⟨qs, 2, none⟩ = some (.slice Au2 nu2 cu2) ∧ ((((w10.setCell ⟨w.heap.size + 1 + 1, 0, none⟩ (.int .i64 z0)).setCell ⟨w.heap.size + 1 + 1, 1, none⟩ (.int .i64 z1)).setCell ⟨w.heap.size + 1 + 1, 2, none⟩ (.int .i64 z2)).setCell ⟨w.heap.size + 1 + 1, 3, none⟩ (.slice A2 n2 c2)).cell? ⟨qs, 3, none⟩ = some (.slice Au3 nu3 cu3) ∧ ((((w10.setCell ⟨w.heap.size + 1 + 1, 0, none⟩ (.int .i64 z0)).setCell ⟨w.heap.size + 1 + 1, 1, none⟩ (.int .i64 z1)).setCell ⟨w.heap.size + 1 + 1, 2, none⟩ (.int .i64 z2)).setCell ⟨w.heap.size + 1 + 1, 3, none⟩ (.slice A2 n2 c2)).cell? ⟨qh, 0, none⟩ = some (.int .i64 z0) ∧ ((((w10.setCell ⟨w.heap.size + 1 + 1, 0, none⟩ (.int .i64 z0)).setCell ⟨w.heap.size + 1 + 1, 1, none⟩ (.int .i64 z1)).setCell ⟨w.heap.size + 1 + 1, 2, none⟩ (.int .i64 z2)).setCell ⟨w.heap.size + 1 + 1, 3, none⟩ (.slice A2 n2 c2)).cell? ⟨qh, 1, none⟩ = some (.int .i64 z1) ∧ ((((w10.setCell ⟨w.heap.size + 1 + 1, 0, none⟩ (.int .i64 z0)).setCell ⟨w.heap.size + 1 + 1, 1, none⟩ (.int .i64 z1)).setCell ⟨w.heap.size + 1 + 1, 2, none⟩ (.int .i64 z2)).setCell ⟨w.heap.size + 1 + 1, 3, none⟩ (.slice A2 n2 c2)).cell? ⟨qh, 2, none⟩ = some (.int .i64 z2) ∧ ((((w10.setCell ⟨w.heap.size + 1 + 1, 0, none⟩ (.int .i64 z0)).setCell ⟨w.heap.size + 1 + 1, 1, none⟩ (.int .i64 z1)).setCell ⟨w.heap.size + 1 + 1, 2, none⟩ (.int .i64 z2)).setCell ⟨w.heap.size + 1 + 1, 3, none⟩ (.slice A2 n2 c2)).cell? ⟨qh, 3, none⟩ = some (.slice A2 n2 c2) ∧ ((((w10.setCell ⟨w.heap.size + 1 + 1, 0, none⟩ (.int .i64 z0)).setCell ⟨w.heap.size + 1 + 1, 1, none⟩ (.int .i64 z1)).setCell ⟨w.heap.size + 1 + 1, 2, none⟩ (.int .i64 z2)).setCell ⟨w.heap.size + 1 + 1, 3, none⟩ (.slice A2 n2 c2)).cell? ⟨qb, 0, none⟩ = some (.int .i64 bk.base) ∧ ((((w10.setCell ⟨w.heap.size + 1 + 1, 0, none⟩ (.int .i64 z0)).setCell ⟨w.heap.size + 1 + 1, 1, none⟩ (.int .i64 z1)).setCell ⟨w.heap.size + 1 + 1, 2, none⟩ (.int .i64 z2)).setCell ⟨w.heap.size + 1 + 1, 3, none⟩ (.slice A2 n2 c2)).cell? ⟨qb, 1, none⟩ = some (.int .i64 bk.tm) ∧ ((((w10.setCell ⟨w.heap.size + 1 + 1, 0, none⟩ (.int .i64 z0)).setCell ⟨w.heap.size + 1 + 1, 1, none⟩ (.int .i64 z1)).setCell ⟨w.heap.size + 1 + 1, 2, none⟩ (.int .i64 z2)).setCell ⟨w.heap.size + 1 + 1, 3, none⟩ (.slice A2 n2 c2)).cell? ⟨qb, 2, none⟩ = some (.slice Ay ny cy) := ⟨(S.at_ 5 rfl).cell 0, (S.at_ 5 rfl).cell 1, (S.at_ 5 rfl).cell 2, (S.at_ 5 rfl).cell 3, (S.at_ 3 rfl).cell 0, (S.at_ 3 rfl).cell 1, (S.at_ 3 rfl).cell 2, (S.at_ 3 rfl).cell 3, (S.at_ 1 rfl).cell 0, (S.at_ 1 rfl).cell 1, (S.at_ 1 rfl).cell 2⟩
  refine hK _ _ (fun _ => HF) ?_
  clear hK K
  try simp only [Act.put]
  generalize hw : (((w10.setCell ⟨w.heap.size + 1 + 1, 0, none⟩ (.int .i64 z0)).setCell ⟨w.heap.size + 1 + 1, 1, none⟩ (.int .i64 z1)).setCell ⟨w.heap.size + 1 + 1, 2, none⟩ (.int .i64 z2)).setCell ⟨w.heap.size + 1 + 1, 3, none⟩ (.slice A2 n2 c2) = w11 at *
  clear hw
  clear f24 f25 f26 f27 f28 f29 f30 f31
  have f32 := lk S 7 0 rfl rfl
  have f33 := (S.at_ 7 rfl).free 0
  have f34 := lk S 7 1 rfl rfl
  have f35 := (S.at_ 7 rfl).free 1
  have f36 := lk S 7 2 rfl rfl
  have f37 := (S.at_ 7 rfl).free 2
  refine wpAnyL_step (i := 8) (by kernel_rfl) rfl rfl ?_
  intro K hK
  go_simp
  replace S := S.put 7 rfl 0 (.int .i64 bk.base)
  replace c := st c S (by omega)
  replace S := S.put 7 rfl 1 (.int .i64 bk.tm)
  replace c := st c S (by omega)
  replace S := S.put 7 rfl 2 (.slice Ay ny cy)
  replace c := st c S (by omega)
  clear HF
  have HF : (((w11.setCell ⟨w.heap.size + 1 + 1 + 1, 0, none⟩ (.int .i64 bk.base)).setCell ⟨w.heap.size + 1 + 1 + 1, 1, none⟩ (.int .i64 bk.tm)).setCell ⟨w.heap.size + 1 + 1 + 1, 2, none⟩ (.slice Ay ny cy)).cell? ⟨qs, 0, none⟩ = some (.slice Au0 nu0 cu0) ∧ (((w11.setCell ⟨w.heap.size + 1 + 1 + 1, 0, none⟩ (.int .i64 bk.base)).setCell ⟨w.heap.size + 1 + 1 + 1, 1, none⟩ (.int .i64 bk.tm)).setCell ⟨w.heap.size + 1 + 1 + 1, 2, none⟩ (.slice Ay ny cy)).cell? ⟨qs, 1, none⟩ = some (.slice Au1 nu1 cu1) ∧ (((w11.setCell ⟨w.heap.size + 1 + 1 + 1, 0, none⟩ (.int .i64 bk.base)).setCell ⟨w.heap.size + 1 + 1 + 1, 1, none⟩ (.int .i64 bk.tm)).setCell ⟨w.heap.size + 1 + 1 + 1, 2, none⟩ (.slice Ay ny cy)).cell? ⟨qs, 2, none⟩ = some (.slice Au2 nu2 cu2) ∧ (((w11.setCell ⟨w.heap.size + 1 + 1 + 1, 0, none⟩ (.int .i64 bk.base)).setCell ⟨w.heap.size + 1 + 1 + 1, 1, none⟩ (.int .i64 bk.tm)).setCell ⟨w.heap.size + 1 + 1 + 1, 2, none⟩ (.slice Ay ny cy)).cell? ⟨qs, 3, none⟩ = some (.slice Au3 nu3 cu3) ∧ (((w11.setCell ⟨w.heap.size + 1 + 1 + 1, 0, none⟩ (.int .i64 bk.base)).setCell ⟨w.heap.size + 1 + 1 + 1, 1, none⟩ (.int .i64 bk.tm)).setCell ⟨w.heap.size + 1 + 1 + 1, 2, none⟩ (.slice Ay ny cy)).cell? ⟨qh, 0, none⟩ = some (.int .i64 z0) ∧ (((w11.setCell ⟨w.heap.size + 1 + 1 + 1, 0, none⟩ (.int .i64 bk.base)).setCell ⟨w.heap.size + 1 + 1 + 1, 1, none⟩ (.int .i64 bk.tm)).setCell ⟨w.heap.size + 1 + 1 + 1, 2, none⟩ (.slice Ay ny cy)).cell? ⟨qh, 1, none⟩ = some (.int .i64 z1) ∧ (((w11.setCell ⟨w.heap.size + 1 + 1 + 1, 0, none⟩ (.int .i64 bk.base)).setCell ⟨w.heap.size + 1 + 1 + 1, 1, none⟩ (.int .i64 bk.tm)).setCell ⟨w.heap.size + 1 + 1 + 1, 2, none⟩ (.slice Ay ny cy)).cell? ⟨qh, 2, none⟩ = some (.int .i64 z2) ∧ (((w11.setCell ⟨w.heap.size + 1 + 1 + 1, 0, none⟩ (.int .i64 bk.base)).setCell ⟨w.heap.size + 1 + 1 + 1, 1, none⟩ (.int .i64 bk.tm)).setCell ⟨w.heap.size + 1 + 1 + 1, 2, none⟩ (.slice Ay ny cy)).cell? ⟨qh, 3, none⟩ = some (.slice A2 n2 c2) ∧ (((w11.setCell ⟨w.heap.size + 1 + 1 + 1, 0, none⟩ (.int .i64 bk.base)).setCell ⟨w.heap.size + 1 + 1 + 1, 1, none⟩ (.int .i64 bk.tm)).setCell ⟨w.heap.size + 1 + 1 + 1, 2, none⟩ (.slice Ay ny cy)).cell? ⟨qb, 0, none⟩ = some (.int .i64 bk.base) ∧ (((w11.setCell ⟨w.heap.size + 1 + 1 + 1, 0, none⟩ (.int .i64 bk.base)).setCell ⟨w.heap.size + 1 + 1 + 1, 1, none⟩ (.int .i64 bk.tm)).setCell ⟨w.heap.size + 1 + 1 + 1, 2, none⟩ (.slice Ay ny cy)).cell? ⟨qb, 1, none⟩ = some (.int .i64 bk.tm) ∧ (((w11.setCell ⟨w.heap.size + 1 + 1 + 1, 0, none⟩ (.int .i64 bk.base)).setCell ⟨w.heap.size + 1 + 1 + 1, 1, none⟩ (.int .i64 bk.tm)).setCell ⟨w.heap.size + 1 + 1 + 1, 2, none⟩ (.slice Ay ny cy)).cell? ⟨qb, 2, none⟩ = some (.slice Ay ny cy) := ⟨(S.at_ 5 rfl).cell 0, (S.at_ 5 rfl).cell 1, (S.at_ 5 rfl).cell 2, (S.at_ 5 rfl).cell 3, (S.at_ 3 rfl).cell 0, (S.at_ 3 rfl).cell 1, (S.at_ 3 rfl).cell 2, (S.at_ 3 rfl).cell 3, (S.at_ 1 rfl).cell 0, (S.at_ 1 rfl).cell 1, (S.at_ 1 rfl).cell 2⟩
  refine hK _ _ (fun _ => HF) ?_
  clear hK K
  try simp only [Act.put]
  generalize hw : ((w11.setCell ⟨w.heap.size + 1 + 1 + 1, 0, none⟩ (.int .i64 bk.base)).setCell ⟨w.heap.size + 1 + 1 + 1, 1, none⟩ (.int .i64 bk.tm)).setCell ⟨w.heap.size + 1 + 1 + 1, 2, none⟩ (.slice Ay ny cy) = w12 at *
  clear hw
  clear f32 f33 f34 f35 f36 f37
  refine wpAnyL_step (i := 9) (by kernel_rfl) rfl rfl ?_
  intro K hK
  go_simp
  refine hK _ _ (fun h => nomatch (show true = false from h)) ?_
  clear hK K
  try simp only [Act.put]
  refine wpAnyL_done (by kernel_rfl) ?_ _
  clear HF
  have r0 := jd (show w12.cell? ⟨w.heap.size + 1, 0, none⟩ = some (.slice Ap0 np0 cp0) from (S.at_ 9 rfl).cell 0)
  have r1 := jd (show w12.cell? ⟨w.heap.size + 1, 1, none⟩ = some (.slice Ap1 np1 cp1) from (S.at_ 9 rfl).cell 1)
  have r2 := jd (show w12.cell? ⟨w.heap.size + 1, 2, none⟩ = some (.slice Ap2 np2 cp2) from (S.at_ 9 rfl).cell 2)
  have r3 := jd (show w12.cell? ⟨w.heap.size + 1, 3, none⟩ = some (.slice Ap3 np3 cp3) from (S.at_ 9 rfl).cell 3)
  have r4 := jd (show w12.cell? ⟨w.heap.size + 1 + 1, 0, none⟩ = some (.int .i64 z0) from (S.at_ 8 rfl).cell 0)
  have r5 := jd (show w12.cell? ⟨w.heap.size + 1 + 1, 1, none⟩ = some (.int .i64 z1) from (S.at_ 8 rfl).cell 1)
  have r6 := jd (show w12.cell? ⟨w.heap.size + 1 + 1, 2, none⟩ = some (.int .i64 z2) from (S.at_ 8 rfl).cell 2)
  have r7 := jd (show w12.cell? ⟨w.heap.size + 1 + 1, 3, none⟩ = some (.slice A2 n2 c2) from (S.at_ 8 rfl).cell 3)
  have r8 := jd (show w12.cell? ⟨w.heap.size + 1 + 1 + 1, 0, none⟩ = some (.int .i64 bk.base) from (S.at_ 7 rfl).cell 0)
  have r9 := jd (show w12.cell? ⟨w.heap.size + 1 + 1 + 1, 1, none⟩ = some (.int .i64 bk.tm) from (S.at_ 7 rfl).cell 1)
  have r10 := jd (show w12.cell? ⟨w.heap.size + 1 + 1 + 1, 2, none⟩ = some (.slice Ay ny cy) from (S.at_ 7 rfl).cell 2)
  replace S := S.pick 0 rfl
  replace S := S.pick 4 rfl
  replace S := S.pick 3 rfl
  have H := jd (sep_rec (z0 := z0) (z1 := z1) (z2 := z2) S)
  have CC := jd c
  clear S c
  go_wp2
  exact bodyPost_ret (v := .tuple #[.agg #[.slice Ap0 np0 cp0, .slice Ap1 np1 cp1, .slice Ap2 np2 cp2, .slice Ap3 np3 cp3], .agg #[.int .i64 z0, .int .i64 z1, .int .i64 z2, .slice A2 n2 c2], .agg #[.int .i64 bk.base, .int .i64 bk.tm, .slice Ay ny cy], .bool true]) (by simp [results, Tryz.results17, go_sem, r0.out, r1.out, r2.out, r3.out, r4.out, r5.out, r6.out, r7.out, r8.out, r9.out, r10.out]) rfl ⟨_, _, _, _, _, _, _, _, _, _, _, _, _, _, _, _, _, _, _, _, _, _, _, by rw [HRV.out], by rw [HRV.out]; exact H.out, CC.out⟩
theorem iRecovered_c : CRecovered 17 := fun Aa0 na0 ca0 Aa1 na1 ca1 Aa2 na2 ca2 Aa3 na3 ca3 t w h hs => iRecovered_any Aa0 na0 ca0 Aa1 na1 ca1 Aa2 na2 ca2 Aa3 na3 ca3 t w h hs
end Go.Proofs.YtmjifhjhialcbaaGreat
