/- Parts of my texts: TwoI1. -/
import Derived.Test.YtmjifhjhialcbaaT30
import Derived.LoopN
namespace Go.Proofs.Ytmjifhjhialcbaa
set_option maxRecDepth 100000
set_option linter.unusedVariables false
open Go.RowKit
set_option maxHeartbeats 3200000 in
theorem iDisks_any (Aa0 : Option Addr) (na0 ca0 : Nat) (Aa1 : Option Addr) (na1 ca1 : Nat) (Aa2 : Option Addr) (na2 ca2 : Nat) (Aa3 : Option Addr) (na3 ca3 : Nat) (w : World) : Calls Try.prog 53 #[.agg #[.slice Aa0 na0 ca0, .slice Aa1 na1 ca1, .slice Aa2 na2 ca2, .slice Aa3 na3 ca3]] w fun e w' => e = .returned (.agg #[.slice Aa0 na0 ca0, .slice Aa1 na1 ca1, .slice Aa2 na2 ca2, .slice Aa3 na3 ca3]) ∧ Below w.heap.size w w' := by
 have S := Sep.nil w w.heap.size
 have c := Below.refl w.heap.size w
 replace S := S.boxAt c.size (w.heap.size) rfl #[.slice Aa0 na0 ca0, .slice Aa1 na1 ca1, .slice Aa2 na2 ca2, .slice Aa3 na3 ca3] 60
 replace c := al c S
 replace S := S.boxAt c.size (w.heap.size + 1) (by simp) #[.slice Aa0 na0 ca0, .slice Aa1 na1 ca1, .slice Aa2 na2 ca2, .slice Aa3 na3 ca3] 97
 replace c := al c S
 go_enter Try.func53, Try.ntmps53
 have f0 := lk S 1 0 rfl rfl
 have f1 := lk S 1 1 rfl rfl
 have f2 := lk S 1 2 rfl rfl
 have f3 := lk S 1 3 rfl rfl
 have f4 := lk S 0 0 rfl rfl
 have f5 := lk S 0 1 rfl rfl
 have f6 := lk S 0 2 rfl rfl
 have f7 := lk S 0 3 rfl rfl
 have C := jd c
 clear S c
 go_wp2
 exact bodyPost_ret (v := .agg #[.slice Aa0 na0 ca0, .slice Aa1 na1 ca1, .slice Aa2 na2 ca2, .slice Aa3 na3 ca3]) (by simp [results, Try.results53, go_sem]) rfl ⟨rfl, C.out⟩
set_option maxHeartbeats 3200000 in
theorem iTwoOf_any (Aa0 : Option Addr) (na0 ca0 : Nat) (Aa1 : Option Addr) (na1 ca1 : Nat) (Aa2 : Option Addr) (na2 ca2 : Nat) (Aa3 : Option Addr) (na3 ca3 : Nat) (w : World) : Calls Try.prog 54 #[.agg #[.slice Aa0 na0 ca0, .slice Aa1 na1 ca1, .slice Aa2 na2 ca2, .slice Aa3 na3 ca3]] w fun e w' => e = .returned (.agg #[.slice Aa0 na0 ca0, .slice Aa1 na1 ca1, .slice Aa2 na2 ca2, .slice Aa3 na3 ca3]) ∧ Below w.heap.size w w' := by
 have S := Sep.nil w w.heap.size
 have c := Below.refl w.heap.size w
 replace S := S.boxAt c.size (w.heap.size) rfl #[.slice Aa0 na0 ca0, .slice Aa1 na1 ca1, .slice Aa2 na2 ca2, .slice Aa3 na3 ca3] 97
 replace c := al c S
 replace S := S.boxAt c.size (w.heap.size + 1) (by simp) #[.slice Aa0 na0 ca0, .slice Aa1 na1 ca1, .slice Aa2 na2 ca2, .slice Aa3 na3 ca3] 60
 replace c := al c S
 go_enter Try.func54, Try.ntmps54
 have f0 := lk S 1 0 rfl rfl
 have f1 := lk S 1 1 rfl rfl
 have f2 := lk S 1 2 rfl rfl
 have f3 := lk S 1 3 rfl rfl
 have f4 := lk S 0 0 rfl rfl
 have f5 := lk S 0 1 rfl rfl
 have f6 := lk S 0 2 rfl rfl
 have f7 := lk S 0 3 rfl rfl
 have C := jd c
 clear S c
 go_wp2
 exact bodyPost_ret (v := .agg #[.slice Aa0 na0 ca0, .slice Aa1 na1 ca1, .slice Aa2 na2 ca2, .slice Aa3 na3 ca3]) (by simp [results, Try.results54, go_sem]) rfl ⟨rfl, C.out⟩
set_option maxHeartbeats 6400000 in
theorem iTwoOk_any (Aa0 : Option Addr) (na0 ca0 : Nat) (Aa1 : Option Addr) (na1 ca1 : Nat) (Aa2 : Option Addr) (na2 ca2 : Nat) (Aa3 : Option Addr) (na3 ca3 : Nat) (t : TwoM) (B : Nat) (w : World) (h : Rd w B t.cells [.slice Aa0 na0 ca0, .slice Aa1 na1 ca1, .slice Aa2 na2 ca2, .slice Aa3 na3 ca3]) (hB : B ≤ w.heap.size) (hs : t.sz ≤ 1048577) :
    Calls Try.prog 52 #[.agg #[.slice Aa0 na0 ca0, .slice Aa1 na1 ca1, .slice Aa2 na2 ca2, .slice Aa3 na3 ca3]] w fun e w' => e = .returned (.bool (twoOk t)) ∧ Below w.heap.size w w' := by
 obtain ⟨ha, hb⟩ := h.halves
 have hsa : t.a.sz ≤ 1048577 := by unfold TwoM.sz at hs; omega
 have hsb : t.b.sz ≤ 1048577 := by unfold TwoM.sz at hs; omega
 cases hda : diskOk t.a
 case false =>
  have HT := jd (show twoOk t = false from twoOk_no (by simp [hda]))
  have HA := jd hda
  clear hda
  have S := Sep.nil w w.heap.size
  have c := Below.refl w.heap.size w
  have hix0 : ∀ w9, (Instr.index 97 (.agg #[.slice Aa0 na0 ca0, .slice Aa1 na1 ca1, .slice Aa2 na2 ca2, .slice Aa3 na3 ca3]) (.int .i64 0)).run Try.prog w9 = .ok (.agg #[.slice Aa0 na0 ca0, .slice Aa1 na1 ca1]) w9 := fun _ => by kernel_rfl
  have hix1 : ∀ w9, (Instr.index 97 (.agg #[.slice Aa0 na0 ca0, .slice Aa1 na1 ca1, .slice Aa2 na2 ca2, .slice Aa3 na3 ca3]) (.int .i64 1)).run Try.prog w9 = .ok (.agg #[.slice Aa2 na2 ca2, .slice Aa3 na3 ca3]) w9 := fun _ => by kernel_rfl
  replace S := S.boxAt c.size (w.heap.size) rfl #[.slice Aa0 na0 ca0, .slice Aa1 na1 ca1, .slice Aa2 na2 ca2, .slice Aa3 na3 ca3] 60
  replace c := al c S
  go_enter Try.func52, Try.ntmps52
  have f0 := lk S 0 0 rfl rfl
  have f1 := lk S 0 1 rfl rfl
  have f2 := lk S 0 2 rfl rfl
  have f3 := lk S 0 3 rfl rfl
  go_wp2_with fail
  generalize w.alloc (.cells #[.slice Aa0 na0 ca0, .slice Aa1 na1 ca1, .slice Aa2 na2 ca2, .slice Aa3 na3 ca3] 60) = w1 at *
  refine (iDisks_any _ _ _ _ _ _ _ _ _ _ _ _ _).mono ?_
  rintro e w2 ⟨rfl, b⟩
  replace c := c.trans (b.mono c.size)
  replace S := S.keep b
  clear b f0 f1 f2 f3
  go_wp2
  refine wp_loop_rounds 3 ?_
  rw [rounds_succ]
  replace S := S.boxAt c.size (w2.heap.size) rfl #[.slice Aa0 na0 ca0, .slice Aa1 na1 ca1] 44
  replace c := al c S
  have f4 := lk S 0 0 rfl rfl
  have f5 := lk S 0 1 rfl rfl
  go_wp2_with fail
  generalize w2.alloc (.cells #[.slice Aa0 na0 ca0, .slice Aa1 na1 ca1] 44) = w3 at *
  refine (iDiskOk_any _ _ t.a _ _ (ha.keep (c.mono hB)) (Nat.le_trans hB c.size) hsa).mono ?_
  rintro e w4 ⟨rfl, b⟩
  replace c := c.trans (b.mono c.size)
  replace S := S.keep b
  clear b f4 f5
  rw [HA.out]
  have C := jd c
  clear S c ha hb h
  go_wp2
  go_ret
  exact ⟨ret_bool HT.out.symm, C.out⟩
 have HA := jd hda
 clear hda
 cases hdb : diskOk t.b
 case false =>
  have HT := jd (show twoOk t = false from twoOk_no (by simp [hdb]))
  have HB := jd hdb
  clear hdb
  have S := Sep.nil w w.heap.size
  have c := Below.refl w.heap.size w
  have hix0 : ∀ w9, (Instr.index 97 (.agg #[.slice Aa0 na0 ca0, .slice Aa1 na1 ca1, .slice Aa2 na2 ca2, .slice Aa3 na3 ca3]) (.int .i64 0)).run Try.prog w9 = .ok (.agg #[.slice Aa0 na0 ca0, .slice Aa1 na1 ca1]) w9 := fun _ => by kernel_rfl
  have hix1 : ∀ w9, (Instr.index 97 (.agg #[.slice Aa0 na0 ca0, .slice Aa1 na1 ca1, .slice Aa2 na2 ca2, .slice Aa3 na3 ca3]) (.int .i64 1)).run Try.prog w9 = .ok (.agg #[.slice Aa2 na2 ca2, .slice Aa3 na3 ca3]) w9 := fun _ => by kernel_rfl
  replace S := S.boxAt c.size (w.heap.size) rfl #[.slice Aa0 na0 ca0, .slice Aa1 na1 ca1, .slice Aa2 na2 ca2, .slice Aa3 na3 ca3] 60
  replace c := al c S
  go_enter Try.func52, Try.ntmps52
  have f0 := lk S 0 0 rfl rfl
  have f1 := lk S 0 1 rfl rfl
  have f2 := lk S 0 2 rfl rfl
  have f3 := lk S 0 3 rfl rfl
  go_wp2_with fail
  generalize w.alloc (.cells #[.slice Aa0 na0 ca0, .slice Aa1 na1 ca1, .slice Aa2 na2 ca2, .slice Aa3 na3 ca3] 60) = w1 at *
  refine (iDisks_any _ _ _ _ _ _ _ _ _ _ _ _ _).mono ?_
  rintro e w2 ⟨rfl, b⟩
  replace c := c.trans (b.mono c.size)
  replace S := S.keep b
  clear b f0 f1 f2 f3
  go_wp2
  refine wp_loop_rounds 3 ?_
  rw [rounds_succ]
  replace S := S.boxAt c.size (w2.heap.size) rfl #[.slice Aa0 na0 ca0, .slice Aa1 na1 ca1] 44
  replace c := al c S
  have f4 := lk S 0 0 rfl rfl
  have f5 := lk S 0 1 rfl rfl
  go_wp2_with fail
  generalize w2.alloc (.cells #[.slice Aa0 na0 ca0, .slice Aa1 na1 ca1] 44) = w3 at *
  refine (iDiskOk_any _ _ t.a _ _ (ha.keep (c.mono hB)) (Nat.le_trans hB c.size) hsa).mono ?_
  rintro e w4 ⟨rfl, b⟩
  replace c := c.trans (b.mono c.size)
  replace S := S.keep b
  clear b f4 f5
  rw [HA.out]
  go_wp2
  rw [rounds_succ]
  replace S := S.boxAt c.size (w4.heap.size) rfl #[.slice Aa2 na2 ca2, .slice Aa3 na3 ca3] 44
  replace c := al c S
  have f6 := lk S 0 0 rfl rfl
  have f7 := lk S 0 1 rfl rfl
  go_wp2_with fail
  generalize w4.alloc (.cells #[.slice Aa2 na2 ca2, .slice Aa3 na3 ca3] 44) = w5 at *
  refine (iDiskOk_any _ _ t.b _ _ (hb.keep (c.mono hB)) (Nat.le_trans hB c.size) hsb).mono ?_
  rintro e w6 ⟨rfl, b⟩
  replace c := c.trans (b.mono c.size)
  replace S := S.keep b
  clear b f6 f7
  rw [HB.out]
  have C := jd c
  clear S c ha hb h
  go_wp2
  go_ret
  exact ⟨ret_bool HT.out.symm, C.out⟩
 case true =>
  have hl0 := rdKeptLen ha
  have hl2 := rdKeptLen hb
  have hn0 : na0 ≤ 1048577 := by unfold DiskM.sz rowsSz at hsa; omega
  have hn2 : na2 ≤ 1048577 := by unfold DiskM.sz rowsSz at hsb; omega
  have HT := jd (show twoOk t = decide ((na0 : Int) = (na2 : Int)) by
   unfold twoOk
   rw [HA.out, hdb, hl0, hl2]
   simp only [Bool.true_and]
   exact decide_eq_decide.2 (by omega))
  have HB := jd hdb
  clear hdb hl0 hl2
  have S := Sep.nil w w.heap.size
  have c := Below.refl w.heap.size w
  have hix0 : ∀ w9, (Instr.index 97 (.agg #[.slice Aa0 na0 ca0, .slice Aa1 na1 ca1, .slice Aa2 na2 ca2, .slice Aa3 na3 ca3]) (.int .i64 0)).run Try.prog w9 = .ok (.agg #[.slice Aa0 na0 ca0, .slice Aa1 na1 ca1]) w9 := fun _ => by kernel_rfl
  have hix1 : ∀ w9, (Instr.index 97 (.agg #[.slice Aa0 na0 ca0, .slice Aa1 na1 ca1, .slice Aa2 na2 ca2, .slice Aa3 na3 ca3]) (.int .i64 1)).run Try.prog w9 = .ok (.agg #[.slice Aa2 na2 ca2, .slice Aa3 na3 ca3]) w9 := fun _ => by kernel_rfl
  replace S := S.boxAt c.size (w.heap.size) rfl #[.slice Aa0 na0 ca0, .slice Aa1 na1 ca1, .slice Aa2 na2 ca2, .slice Aa3 na3 ca3] 60
  replace c := al c S
  go_enter Try.func52, Try.ntmps52
  have f0 := lk S 0 0 rfl rfl
  have f1 := lk S 0 1 rfl rfl
  have f2 := lk S 0 2 rfl rfl
  have f3 := lk S 0 3 rfl rfl
  go_wp2_with fail
  generalize w.alloc (.cells #[.slice Aa0 na0 ca0, .slice Aa1 na1 ca1, .slice Aa2 na2 ca2, .slice Aa3 na3 ca3] 60) = w1 at *
  refine (iDisks_any _ _ _ _ _ _ _ _ _ _ _ _ _).mono ?_
  rintro e w2 ⟨rfl, b⟩
  replace c := c.trans (b.mono c.size)
  replace S := S.keep b
  clear b f0 f1 f2 f3
  go_wp2
  refine wp_loop_rounds 3 ?_
  rw [rounds_succ]
  replace S := S.boxAt c.size (w2.heap.size) rfl #[.slice Aa0 na0 ca0, .slice Aa1 na1 ca1] 44
  replace c := al c S
  have f4 := lk S 0 0 rfl rfl
  have f5 := lk S 0 1 rfl rfl
  go_wp2_with fail
  generalize w2.alloc (.cells #[.slice Aa0 na0 ca0, .slice Aa1 na1 ca1] 44) = w3 at *
  refine (iDiskOk_any _ _ t.a _ _ (ha.keep (c.mono hB)) (Nat.le_trans hB c.size) hsa).mono ?_
  rintro e w4 ⟨rfl, b⟩
  replace c := c.trans (b.mono c.size)
  replace S := S.keep b
  clear b f4 f5
  rw [HA.out]
  go_wp2
  rw [rounds_succ]
  replace S := S.boxAt c.size (w4.heap.size) rfl #[.slice Aa2 na2 ca2, .slice Aa3 na3 ca3] 44
  replace c := al c S
  have f6 := lk S 0 0 rfl rfl
  have f7 := lk S 0 1 rfl rfl
  go_wp2_with fail
  generalize w4.alloc (.cells #[.slice Aa2 na2 ca2, .slice Aa3 na3 ca3] 44) = w5 at *
  refine (iDiskOk_any _ _ t.b _ _ (hb.keep (c.mono hB)) (Nat.le_trans hB c.size) hsb).mono ?_
  rintro e w6 ⟨rfl, b⟩
  replace c := c.trans (b.mono c.size)
  replace S := S.keep b
  clear b f6 f7
  rw [HB.out]
  go_wp2
  rw [rounds_succ]
  have f8 := lk S 2 0 rfl rfl
  have f9 := lk S 2 2 rfl rfl
  have C := jd c
  clear S c ha hb h
  go_wp2
  go_ret
  exact ⟨ret_bool HT.out.symm, C.out⟩
set_option maxHeartbeats 6400000 in
theorem iNewTwo_any (x : Int) (w : World) : Calls Try.prog 51 #[.int .i64 x] w (MadeT w (newTwo x)) := by
 have S := Sep.nil w w.heap.size
 have c := Below.refl w.heap.size w
 replace S := S.boxAt c.size (w.heap.size) rfl #[.slice none 0 0, .slice none 0 0, .slice none 0 0, .slice none 0 0] 60
 replace c := al c S
 replace S := S.boxAt c.size (w.heap.size + 1) (by simp) #[.slice none 0 0, .slice none 0 0, .slice none 0 0, .slice none 0 0] 97
 replace c := al c S
 go_enter Try.func51, Try.ntmps51
 go_wp2
 refine wp_loop_rounds 3 ?_
 rw [rounds_succ]
 go_wp2_with fail
 generalize (w.alloc (.cells #[.slice none 0 0, .slice none 0 0, .slice none 0 0, .slice none 0 0] 60)).alloc (.cells #[.slice none 0 0, .slice none 0 0, .slice none 0 0, .slice none 0 0] 97) = w1 at *
 refine (iNewDisk_any x _).mono ?_
 rintro e w2 ⟨Au0, nu0, cu0, Au1, nu1, cu1, rfl, o, b⟩
 obtain ⟨fp_u, S'⟩ := S.has b o c.size
 replace c := c.trans (b.mono c.size)
 clear S; have S := S'; clear S' o b
 have f0 := lk S 1 0 rfl rfl
 have f1 := (S.at_ 1 rfl).free 0
 have f2 := lk S 1 1 rfl rfl
 have f3 := (S.at_ 1 rfl).free 1
 replace S := S.put 1 rfl 0 (.slice Au0 nu0 cu0)
 replace c := st c S (by omega)
 replace S := S.put 1 rfl 1 (.slice Au1 nu1 cu1)
 replace c := st c S (by omega)
 go_wp2
 rw [rounds_succ]
 go_wp2_with fail
 generalize (w2.setCell ⟨w.heap.size + 1, 0, none⟩ (.slice Au0 nu0 cu0)).setCell ⟨w.heap.size + 1, 1, none⟩ (.slice Au1 nu1 cu1) = w3 at *
 refine (iNewDisk_any x _).mono ?_
 rintro e w4 ⟨Ay0, ny0, cy0, Ay1, ny1, cy1, rfl, o, b⟩
 obtain ⟨fp_y, S'⟩ := S.has b o c.size
 replace c := c.trans (b.mono c.size)
 clear S; have S := S'; clear S' o b f0 f1 f2 f3
 have f4 := lk S 2 2 rfl rfl
 have f5 := (S.at_ 2 rfl).free 2
 have f6 := lk S 2 3 rfl rfl
 have f7 := (S.at_ 2 rfl).free 3
 replace S := S.put 2 rfl 2 (.slice Ay0 ny0 cy0)
 replace c := st c S (by omega)
 replace S := S.put 2 rfl 3 (.slice Ay1 ny1 cy1)
 replace c := st c S (by omega)
 go_wp2
 rw [rounds_succ]
 have f8 := lk S 2 0 rfl rfl
 have f9 := lk S 2 1 rfl rfl
 have f10 := lk S 2 2 rfl rfl
 have f11 := lk S 2 3 rfl rfl
 go_wp2_with fail
 generalize (w4.setCell ⟨w.heap.size + 1, 2, none⟩ (.slice Ay0 ny0 cy0)).setCell ⟨w.heap.size + 1, 3, none⟩ (.slice Ay1 ny1 cy1) = w5 at *
 refine (iTwoOf_any _ _ _ _ _ _ _ _ _ _ _ _ _).mono ?_
 rintro e w6 ⟨rfl, b⟩
 replace c := c.trans (b.mono c.size)
 replace S := S.keep b
 clear b f4 f5 f6 f7 f8 f9 f10 f11
 have f12 := lk S 3 0 rfl rfl
 have f13 := (S.at_ 3 rfl).free 0
 have f14 := lk S 3 1 rfl rfl
 have f15 := (S.at_ 3 rfl).free 1
 have f16 := lk S 3 2 rfl rfl
 have f17 := (S.at_ 3 rfl).free 2
 have f18 := lk S 3 3 rfl rfl
 have f19 := (S.at_ 3 rfl).free 3
 replace S := S.put 3 rfl 0 (.slice Au0 nu0 cu0)
 replace c := st c S (by omega)
 replace S := S.put 3 rfl 1 (.slice Au1 nu1 cu1)
 replace c := st c S (by omega)
 replace S := S.put 3 rfl 2 (.slice Ay0 ny0 cy0)
 replace c := st c S (by omega)
 replace S := S.put 3 rfl 3 (.slice Ay1 ny1 cy1)
 replace c := st c S (by omega)
 replace S := S.sub (.cons_cons _ (.cons_cons _ (List.nil_sublist _)))
 have H := jd S.pair
 have C := jd c
 clear S c
 go_wp2
 exact bodyPost_ret (v := .agg #[.slice Au0 nu0 cu0, .slice Au1 nu1 cu1, .slice Ay0 ny0 cy0, .slice Ay1 ny1 cy1]) (by simp [results, Try.results51, go_sem, f12, f14, f16, f18]) rfl ⟨_, _, _, _, _, _, _, _, _, _, _, _, rfl, H.out, C.out⟩
set_option maxHeartbeats 6400000 in
theorem iCopyT_any (Aa0 : Option Addr) (na0 ca0 : Nat) (Aa1 : Option Addr) (na1 ca1 : Nat) (Aa2 : Option Addr) (na2 ca2 : Nat) (Aa3 : Option Addr) (na3 ca3 : Nat) (t : TwoM) (w : World) (h : Rd w w.heap.size t.cells [.slice Aa0 na0 ca0, .slice Aa1 na1 ca1, .slice Aa2 na2 ca2, .slice Aa3 na3 ca3]) (hs : t.sz ≤ 1048576) :
    Calls Try.prog 74 #[.agg #[.slice Aa0 na0 ca0, .slice Aa1 na1 ca1, .slice Aa2 na2 ca2, .slice Aa3 na3 ca3]] w (MadeT w t) := by
 obtain ⟨ha, hb⟩ := h.halves
 have hsa : t.a.sz ≤ 1048576 := by unfold TwoM.sz at hs; omega
 have hsb : t.b.sz ≤ 1048576 := by unfold TwoM.sz at hs; omega
 have S := Sep.nil w w.heap.size
 have c := Below.refl w.heap.size w
 replace S := S.boxAt c.size (w.heap.size) rfl #[.slice Aa0 na0 ca0, .slice Aa1 na1 ca1, .slice Aa2 na2 ca2, .slice Aa3 na3 ca3] 60
 replace c := al c S
 replace S := S.boxAt c.size (w.heap.size + 1) (by simp) #[.slice none 0 0, .slice none 0 0, .slice none 0 0, .slice none 0 0] 60
 replace c := al c S
 go_enter Try.func74, Try.ntmps74
 have hix0 : ∀ w9, (Instr.index 97 (.agg #[.slice Aa0 na0 ca0, .slice Aa1 na1 ca1, .slice Aa2 na2 ca2, .slice Aa3 na3 ca3]) (.int .i64 0)).run Try.prog w9 = .ok (.agg #[.slice Aa0 na0 ca0, .slice Aa1 na1 ca1]) w9 := fun _ => by kernel_rfl
 have hix1 : ∀ w9, (Instr.index 97 (.agg #[.slice Aa0 na0 ca0, .slice Aa1 na1 ca1, .slice Aa2 na2 ca2, .slice Aa3 na3 ca3]) (.int .i64 1)).run Try.prog w9 = .ok (.agg #[.slice Aa2 na2 ca2, .slice Aa3 na3 ca3]) w9 := fun _ => by kernel_rfl
 have f0 := lk S 1 0 rfl rfl
 have f1 := lk S 1 1 rfl rfl
 have f2 := lk S 1 2 rfl rfl
 have f3 := lk S 1 3 rfl rfl
 go_wp2_with fail
 generalize (w.alloc (.cells #[.slice Aa0 na0 ca0, .slice Aa1 na1 ca1, .slice Aa2 na2 ca2, .slice Aa3 na3 ca3] 60)).alloc (.cells #[.slice none 0 0, .slice none 0 0, .slice none 0 0, .slice none 0 0] 60) = w1 at *
 refine (iDisks_any _ _ _ _ _ _ _ _ _ _ _ _ _).mono ?_
 rintro e w2 ⟨rfl, b⟩
 replace c := c.trans (b.mono c.size)
 replace S := S.keep b
 clear b f0 f1 f2 f3
 replace S := S.boxAt c.size (w2.heap.size) rfl #[.slice Aa0 na0 ca0, .slice Aa1 na1 ca1, .slice Aa2 na2 ca2, .slice Aa3 na3 ca3] 97
 replace c := al c S
 have f4 := lk S 0 0 rfl rfl
 have f5 := lk S 0 1 rfl rfl
 have f6 := lk S 0 2 rfl rfl
 have f7 := lk S 0 3 rfl rfl
 go_wp2
 refine wp_loop_rounds 3 ?_
 rw [rounds_succ]
 generalize w2.alloc (.cells #[.slice Aa0 na0 ca0, .slice Aa1 na1 ca1, .slice Aa2 na2 ca2, .slice Aa3 na3 ca3] 97) = w3 at *
 clear f4 f5 f6 f7
 replace S := S.boxAt c.size (w3.heap.size) rfl #[.slice Aa0 na0 ca0, .slice Aa1 na1 ca1] 44
 replace c := al c S
 have f8 := lk S 0 0 rfl rfl
 have f9 := lk S 0 1 rfl rfl
 go_wp2_with fail
 generalize w3.alloc (.cells #[.slice Aa0 na0 ca0, .slice Aa1 na1 ca1] 44) = w4 at *
 refine (iCopyD_any _ _ t.a _ ((ha.keep c).up c.size) (by omega)).mono ?_
 rintro e w5 ⟨Au0, nu0, cu0, Au1, nu1, cu1, rfl, o, b⟩
 obtain ⟨fp_u, S'⟩ := S.has b o c.size
 replace c := c.trans (b.mono c.size)
 clear S; have S := S'; clear S' o b f8 f9
 have f10 := lk S 2 0 rfl rfl
 have f11 := (S.at_ 2 rfl).free 0
 have f12 := lk S 2 1 rfl rfl
 have f13 := (S.at_ 2 rfl).free 1
 replace S := S.put 2 rfl 0 (.slice Au0 nu0 cu0)
 replace c := st c S (S.base_le 2 rfl)
 replace S := S.put 2 rfl 1 (.slice Au1 nu1 cu1)
 replace c := st c S (S.base_le 2 rfl)
 go_wp2
 rw [rounds_succ]
 generalize (w5.setCell ⟨w2.heap.size, 0, none⟩ (.slice Au0 nu0 cu0)).setCell ⟨w2.heap.size, 1, none⟩ (.slice Au1 nu1 cu1) = w6 at *
 clear f10 f11 f12 f13
 replace S := S.boxAt c.size (w6.heap.size) rfl #[.slice Aa2 na2 ca2, .slice Aa3 na3 ca3] 44
 replace c := al c S
 have f14 := lk S 0 0 rfl rfl
 have f15 := lk S 0 1 rfl rfl
 go_wp2_with fail
 generalize w6.alloc (.cells #[.slice Aa2 na2 ca2, .slice Aa3 na3 ca3] 44) = w7 at *
 refine (iCopyD_any _ _ t.b _ ((hb.keep c).up c.size) (by omega)).mono ?_
 rintro e w8 ⟨Ay0, ny0, cy0, Ay1, ny1, cy1, rfl, o, b⟩
 obtain ⟨fp_y, S'⟩ := S.has b o c.size
 replace c := c.trans (b.mono c.size)
 clear S; have S := S'; clear S' o b f14 f15
 have f16 := lk S 4 2 rfl rfl
 have f17 := (S.at_ 4 rfl).free 2
 have f18 := lk S 4 3 rfl rfl
 have f19 := (S.at_ 4 rfl).free 3
 replace S := S.put 4 rfl 2 (.slice Ay0 ny0 cy0)
 replace c := st c S (S.base_le 4 rfl)
 replace S := S.put 4 rfl 3 (.slice Ay1 ny1 cy1)
 replace c := st c S (S.base_le 4 rfl)
 go_wp2
 rw [rounds_succ]
 generalize (w8.setCell ⟨w2.heap.size, 2, none⟩ (.slice Ay0 ny0 cy0)).setCell ⟨w2.heap.size, 3, none⟩ (.slice Ay1 ny1 cy1) = w9 at *
 clear f16 f17 f18 f19
 have f20 := lk S 4 0 rfl rfl
 have f21 := lk S 4 1 rfl rfl
 have f22 := lk S 4 2 rfl rfl
 have f23 := lk S 4 3 rfl rfl
 go_wp2_with fail
 refine (iTwoOf_any _ _ _ _ _ _ _ _ _ _ _ _ _).mono ?_
 rintro e w10 ⟨rfl, b⟩
 replace c := c.trans (b.mono c.size)
 replace S := S.keep b
 clear b f20 f21 f22 f23
 have f24 := lk S 5 0 rfl rfl
 have f25 := (S.at_ 5 rfl).free 0
 have f26 := lk S 5 1 rfl rfl
 have f27 := (S.at_ 5 rfl).free 1
 have f28 := lk S 5 2 rfl rfl
 have f29 := (S.at_ 5 rfl).free 2
 have f30 := lk S 5 3 rfl rfl
 have f31 := (S.at_ 5 rfl).free 3
 replace S := S.put 5 rfl 0 (.slice Au0 nu0 cu0)
 replace c := st c S (by omega)
 replace S := S.put 5 rfl 1 (.slice Au1 nu1 cu1)
 replace c := st c S (by omega)
 replace S := S.put 5 rfl 2 (.slice Ay0 ny0 cy0)
 replace c := st c S (by omega)
 replace S := S.put 5 rfl 3 (.slice Ay1 ny1 cy1)
 replace c := st c S (by omega)
 replace S := S.sub (.cons_cons _ (.cons _ (.cons_cons _ (List.nil_sublist _))))
 have H := jd S.pair
 have C := jd c
 clear S c
 go_wp2
 exact bodyPost_ret (v := .agg #[.slice Au0 nu0 cu0, .slice Au1 nu1 cu1, .slice Ay0 ny0 cy0, .slice Ay1 ny1 cy1]) (by simp [results, Try.results74, go_sem, f24, f26, f28, f30]) rfl ⟨_, _, _, _, _, _, _, _, _, _, _, _, rfl, H.out, C.out⟩
set_option maxHeartbeats 6400000 in
theorem iBothSynced_any (Aa0 : Option Addr) (na0 ca0 : Nat) (Aa1 : Option Addr) (na1 ca1 : Nat) (Aa2 : Option Addr) (na2 ca2 : Nat) (Aa3 : Option Addr) (na3 ca3 : Nat) (t : TwoM) (w : World) (h : Rd w w.heap.size t.cells [.slice Aa0 na0 ca0, .slice Aa1 na1 ca1, .slice Aa2 na2 ca2, .slice Aa3 na3 ca3]) (hs : t.sz ≤ 1048576) :
    Calls Try.prog 24 #[.agg #[.slice Aa0 na0 ca0, .slice Aa1 na1 ca1, .slice Aa2 na2 ca2, .slice Aa3 na3 ca3]] w (MadeT w (bothSynced t)) := by
 obtain ⟨ha, hb⟩ := h.halves
 have hsa : t.a.sz ≤ 1048576 := by unfold TwoM.sz at hs; omega
 have hsb : t.b.sz ≤ 1048576 := by unfold TwoM.sz at hs; omega
 cases hok : twoOk t
 case false =>
  have HR := jd (show bothSynced t = zeroT by simp [bothSynced, hok])
  have HT := jd hok
  clear hok
  have S := Sep.nil w w.heap.size
  have c := Below.refl w.heap.size w
  replace S := S.boxAt c.size (w.heap.size) rfl #[.slice Aa0 na0 ca0, .slice Aa1 na1 ca1, .slice Aa2 na2 ca2, .slice Aa3 na3 ca3] 60
  replace c := al c S
  replace S := S.boxAt c.size (w.heap.size + 1) (by simp) #[.slice none 0 0, .slice none 0 0, .slice none 0 0, .slice none 0 0] 60
  replace c := al c S
  go_enter Try.func24, Try.ntmps24
  have f0 := lk S 1 0 rfl rfl
  have f1 := lk S 1 1 rfl rfl
  have f2 := lk S 1 2 rfl rfl
  have f3 := lk S 1 3 rfl rfl
  go_wp2_with fail
  generalize (w.alloc (.cells #[.slice Aa0 na0 ca0, .slice Aa1 na1 ca1, .slice Aa2 na2 ca2, .slice Aa3 na3 ca3] 60)).alloc (.cells #[.slice none 0 0, .slice none 0 0, .slice none 0 0, .slice none 0 0] 60) = w1 at *
  refine (iTwoOk_any _ _ _ _ _ _ _ _ _ _ _ _ t _ _ (h.keep c) c.size (by omega)).mono ?_
  rintro e w2 ⟨rfl, b⟩
  replace c := c.trans (b.mono c.size)
  replace S := S.keep b
  clear b f0 f1 f2 f3
  rw [HT.out]
  have f4 := lk S 0 0 rfl rfl
  have f5 := (S.at_ 0 rfl).free 0
  have f6 := lk S 0 1 rfl rfl
  have f7 := (S.at_ 0 rfl).free 1
  have f8 := lk S 0 2 rfl rfl
  have f9 := (S.at_ 0 rfl).free 2
  have f10 := lk S 0 3 rfl rfl
  have f11 := (S.at_ 0 rfl).free 3
  replace S := S.put 0 rfl 0 (.slice none 0 0)
  replace c := st c S (by omega)
  replace S := S.put 0 rfl 1 (.slice none 0 0)
  replace c := st c S (by omega)
  replace S := S.put 0 rfl 2 (.slice none 0 0)
  replace c := st c S (by omega)
  replace S := S.put 0 rfl 3 (.slice none 0 0)
  replace c := st c S (by omega)
  have C := jd c
  clear S c h
  go_wp2
  exact bodyPost_ret (v := .agg #[.slice none 0 0, .slice none 0 0, .slice none 0 0, .slice none 0 0]) (by simp [results, Try.results24, go_sem, f4, f6, f8, f10]) rfl ⟨_, _, _, _, _, _, _, _, _, _, _, _, rfl, by rw [HR.out]; exact has_zeroT _ _, C.out⟩
 have HR := jd (show bothSynced t = ⟨synced t.a, synced t.b⟩ by simp [bothSynced, hok])
 have HT := jd hok
 clear hok
 have S := Sep.nil w w.heap.size
 have c := Below.refl w.heap.size w
 replace S := S.boxAt c.size (w.heap.size) rfl #[.slice Aa0 na0 ca0, .slice Aa1 na1 ca1, .slice Aa2 na2 ca2, .slice Aa3 na3 ca3] 60
 replace c := al c S
 replace S := S.boxAt c.size (w.heap.size + 1) (by simp) #[.slice none 0 0, .slice none 0 0, .slice none 0 0, .slice none 0 0] 60
 replace c := al c S
 go_enter Try.func24, Try.ntmps24
 have f0 := lk S 1 0 rfl rfl
 have f1 := lk S 1 1 rfl rfl
 have f2 := lk S 1 2 rfl rfl
 have f3 := lk S 1 3 rfl rfl
 go_wp2_with fail
 generalize (w.alloc (.cells #[.slice Aa0 na0 ca0, .slice Aa1 na1 ca1, .slice Aa2 na2 ca2, .slice Aa3 na3 ca3] 60)).alloc (.cells #[.slice none 0 0, .slice none 0 0, .slice none 0 0, .slice none 0 0] 60) = w1 at *
 refine (iTwoOk_any _ _ _ _ _ _ _ _ _ _ _ _ t _ _ (h.keep c) c.size (by omega)).mono ?_
 rintro e w2 ⟨rfl, b⟩
 replace c := c.trans (b.mono c.size)
 replace S := S.keep b
 clear b f0 f1 f2 f3
 rw [HT.out]
 have hix0 : ∀ w9, (Instr.index 97 (.agg #[.slice Aa0 na0 ca0, .slice Aa1 na1 ca1, .slice Aa2 na2 ca2, .slice Aa3 na3 ca3]) (.int .i64 0)).run Try.prog w9 = .ok (.agg #[.slice Aa0 na0 ca0, .slice Aa1 na1 ca1]) w9 := fun _ => by kernel_rfl
 have hix1 : ∀ w9, (Instr.index 97 (.agg #[.slice Aa0 na0 ca0, .slice Aa1 na1 ca1, .slice Aa2 na2 ca2, .slice Aa3 na3 ca3]) (.int .i64 1)).run Try.prog w9 = .ok (.agg #[.slice Aa2 na2 ca2, .slice Aa3 na3 ca3]) w9 := fun _ => by kernel_rfl
 have f4 := lk S 1 0 rfl rfl
 have f5 := lk S 1 1 rfl rfl
 have f6 := lk S 1 2 rfl rfl
 have f7 := lk S 1 3 rfl rfl
 go_wp2_with fail
 refine (iDisks_any _ _ _ _ _ _ _ _ _ _ _ _ _).mono ?_
 rintro e w3 ⟨rfl, b⟩
 replace c := c.trans (b.mono c.size)
 replace S := S.keep b
 clear b f4 f5 f6 f7
 replace S := S.boxAt c.size (w3.heap.size) rfl #[.slice Aa0 na0 ca0, .slice Aa1 na1 ca1, .slice Aa2 na2 ca2, .slice Aa3 na3 ca3] 97
 replace c := al c S
 have f8 := lk S 0 0 rfl rfl
 have f9 := lk S 0 1 rfl rfl
 have f10 := lk S 0 2 rfl rfl
 have f11 := lk S 0 3 rfl rfl
 go_wp2
 refine wp_loop_rounds 3 ?_
 rw [rounds_succ]
 generalize w3.alloc (.cells #[.slice Aa0 na0 ca0, .slice Aa1 na1 ca1, .slice Aa2 na2 ca2, .slice Aa3 na3 ca3] 97) = w4 at *
 clear f8 f9 f10 f11
 replace S := S.boxAt c.size (w4.heap.size) rfl #[.slice Aa0 na0 ca0, .slice Aa1 na1 ca1] 44
 replace c := al c S
 have f12 := lk S 0 0 rfl rfl
 have f13 := lk S 0 1 rfl rfl
 go_wp2_with fail
 generalize w4.alloc (.cells #[.slice Aa0 na0 ca0, .slice Aa1 na1 ca1] 44) = w5 at *
 refine (iSynced_any _ _ _ _ _ _ t.a _ ((ha.keep c).up c.size) hsa).mono ?_
 rintro e w6 ⟨Au0, nu0, cu0, Au1, nu1, cu1, rfl, o, b⟩
 obtain ⟨fp_u, S'⟩ := S.has b o c.size
 replace c := c.trans (b.mono c.size)
 clear S; have S := S'; clear S' o b f12 f13
 have f14 := lk S 2 0 rfl rfl
 have f15 := (S.at_ 2 rfl).free 0
 have f16 := lk S 2 1 rfl rfl
 have f17 := (S.at_ 2 rfl).free 1
 replace S := S.put 2 rfl 0 (.slice Au0 nu0 cu0)
 replace c := st c S (S.base_le 2 rfl)
 replace S := S.put 2 rfl 1 (.slice Au1 nu1 cu1)
 replace c := st c S (S.base_le 2 rfl)
 go_wp2
 rw [rounds_succ]
 generalize (w6.setCell ⟨w3.heap.size, 0, none⟩ (.slice Au0 nu0 cu0)).setCell ⟨w3.heap.size, 1, none⟩ (.slice Au1 nu1 cu1) = w7 at *
 clear f14 f15 f16 f17
 replace S := S.boxAt c.size (w7.heap.size) rfl #[.slice Aa2 na2 ca2, .slice Aa3 na3 ca3] 44
 replace c := al c S
 have f18 := lk S 0 0 rfl rfl
 have f19 := lk S 0 1 rfl rfl
 go_wp2_with fail
 generalize w7.alloc (.cells #[.slice Aa2 na2 ca2, .slice Aa3 na3 ca3] 44) = w8 at *
 refine (iSynced_any _ _ _ _ _ _ t.b _ ((hb.keep c).up c.size) hsb).mono ?_
 rintro e w9 ⟨Ay0, ny0, cy0, Ay1, ny1, cy1, rfl, o, b⟩
 obtain ⟨fp_y, S'⟩ := S.has b o c.size
 replace c := c.trans (b.mono c.size)
 clear S; have S := S'; clear S' o b f18 f19
 have f20 := lk S 4 2 rfl rfl
 have f21 := (S.at_ 4 rfl).free 2
 have f22 := lk S 4 3 rfl rfl
 have f23 := (S.at_ 4 rfl).free 3
 replace S := S.put 4 rfl 2 (.slice Ay0 ny0 cy0)
 replace c := st c S (S.base_le 4 rfl)
 replace S := S.put 4 rfl 3 (.slice Ay1 ny1 cy1)
 replace c := st c S (S.base_le 4 rfl)
 go_wp2
 rw [rounds_succ]
 generalize (w9.setCell ⟨w3.heap.size, 2, none⟩ (.slice Ay0 ny0 cy0)).setCell ⟨w3.heap.size, 3, none⟩ (.slice Ay1 ny1 cy1) = w10 at *
 clear f20 f21 f22 f23
 have f24 := lk S 4 0 rfl rfl
 have f25 := lk S 4 1 rfl rfl
 have f26 := lk S 4 2 rfl rfl
 have f27 := lk S 4 3 rfl rfl
 go_wp2_with fail
 refine (iTwoOf_any _ _ _ _ _ _ _ _ _ _ _ _ _).mono ?_
 rintro e w11 ⟨rfl, b⟩
 replace c := c.trans (b.mono c.size)
 replace S := S.keep b
 clear b f24 f25 f26 f27
 have f28 := lk S 5 0 rfl rfl
 have f29 := (S.at_ 5 rfl).free 0
 have f30 := lk S 5 1 rfl rfl
 have f31 := (S.at_ 5 rfl).free 1
 have f32 := lk S 5 2 rfl rfl
 have f33 := (S.at_ 5 rfl).free 2
 have f34 := lk S 5 3 rfl rfl
 have f35 := (S.at_ 5 rfl).free 3
 replace S := S.put 5 rfl 0 (.slice Au0 nu0 cu0)
 replace c := st c S (by omega)
 replace S := S.put 5 rfl 1 (.slice Au1 nu1 cu1)
 replace c := st c S (by omega)
 replace S := S.put 5 rfl 2 (.slice Ay0 ny0 cy0)
 replace c := st c S (by omega)
 replace S := S.put 5 rfl 3 (.slice Ay1 ny1 cy1)
 replace c := st c S (by omega)
 replace S := S.sub (.cons_cons _ (.cons _ (.cons_cons _ (List.nil_sublist _))))
 have H := jd S.pair
 have C := jd c
 clear S c
 go_wp2
 exact bodyPost_ret (v := .agg #[.slice Au0 nu0 cu0, .slice Au1 nu1 cu1, .slice Ay0 ny0 cy0, .slice Ay1 ny1 cy1]) (by simp [results, Try.results24, go_sem, f28, f30, f32, f34]) rfl ⟨_, _, _, _, _, _, _, _, _, _, _, _, rfl, by rw [HR.out]; exact H.out, C.out⟩
end Go.Proofs.Ytmjifhjhialcbaa
