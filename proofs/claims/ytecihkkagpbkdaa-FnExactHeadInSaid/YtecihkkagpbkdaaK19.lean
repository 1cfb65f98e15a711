/- Parts of my texts: TwoS3. -/
import Derived.Test.YtecihkkagpbkdaaK18
namespace Go.Proofs.Ytecihkkagpbkdaa
set_option maxRecDepth 100000
set_option linter.unusedVariables false
open Go.RowKit
theorem bothWrote_bad {t : TwoM} (h : twoOk t = false) (i : Int) (r : List Int) : (bothWrote t i r).2 = false := by simp [bothWrote, h]
theorem bothWrote_true {t : TwoM} {i : Int} {r : List Int} (h : (bothWrote t i r).2 = true) : twoOk t = true := by
 cases hok : twoOk t
 · rw [bothWrote_bad hok] at h; cases h
 · rfl
set_option maxHeartbeats 12800000 in
theorem sMendedAt_any (Aa0 : Option Addr) (na0 ca0 : Nat) (Aa1 : Option Addr) (na1 ca1 : Nat) (Aa2 : Option Addr) (na2 ca2 : Nat) (Aa3 : Option Addr) (na3 ca3 : Nat) (t : TwoM) (i : Int) (E : Option Addr) (o co : Nat) (r : List Int) (w : World) (h : Rd w w.heap.size t.cells [.slice Aa0 na0 ca0, .slice Aa1 na1 ca1, .slice Aa2 na2 ca2, .slice Aa3 na3 ca3]) (hs : t.sz ≤ 1048576) (h2 : Rd w w.heap.size (rowCells r) [.slice E o co]) (hs2 : r.length ≤ 1048576) :
    Calls Try.prog 34 #[.agg #[.slice Aa0 na0 ca0, .slice Aa1 na1 ca1, .slice Aa2 na2 ca2, .slice Aa3 na3 ca3], .int .i64 i, .slice E o co] w (MadeT w (mendedAt t i r)) := by
 cases hb : (bothWrote t i r).2
 case false =>
  have HR := jd (show mendedAt t i r = (bothWrote t i r).1 by simp [mendedAt, hb])
  have HB := jd hb
  clear hb
  have S := Sep.nil w w.heap.size
  have c := Below.refl w.heap.size w
  replace S := S.boxAt c.size (w.heap.size) rfl #[.slice Aa0 na0 ca0, .slice Aa1 na1 ca1, .slice Aa2 na2 ca2, .slice Aa3 na3 ca3] 34
  replace c := al c S
  replace S := S.boxAt c.size (w.heap.size + 1) (by simp) #[.slice none 0 0, .slice none 0 0, .slice none 0 0, .slice none 0 0] 34
  replace c := al c S
  go_enter Try.func34, Try.ntmps34
  have f0 := lk S 1 0 rfl rfl
  have f1 := lk S 1 1 rfl rfl
  have f2 := lk S 1 2 rfl rfl
  have f3 := lk S 1 3 rfl rfl
  go_wp2_with fail
  generalize (w.alloc (.cells #[.slice Aa0 na0 ca0, .slice Aa1 na1 ca1, .slice Aa2 na2 ca2, .slice Aa3 na3 ca3] 34)).alloc (.cells #[.slice none 0 0, .slice none 0 0, .slice none 0 0, .slice none 0 0] 34) = w1 at *
  refine (sBothWrote_any _ _ _ _ _ _ _ _ _ _ _ _ t i _ _ _ r _ ((h.keep c).up c.size) hs ((h2.keep c).up c.size) hs2).mono ?_
  rintro e w2 ⟨Az0, nz0, cz0, Az1, nz1, cz1, Az2, nz2, cz2, Az3, nz3, cz3, rfl, o, b⟩
  obtain ⟨fp_z, S'⟩ := S.has b o c.size
  replace c := c.trans (b.mono c.size)
  clear S; have S := S'; clear S' o b f0 f1 f2 f3
  rw [HB.out]
  replace S := S.boxAt c.size (w2.heap.size) rfl #[.slice Az0 nz0 cz0, .slice Az1 nz1 cz1, .slice Az2 nz2 cz2, .slice Az3 nz3 cz3] 34
  replace c := al c S
  have f4 := lk S 0 0 rfl rfl
  have f5 := lk S 0 1 rfl rfl
  have f6 := lk S 0 2 rfl rfl
  have f7 := lk S 0 3 rfl rfl
  have f8 := lk S 2 0 rfl rfl
  have f9 := (S.at_ 2 rfl).free 0
  have f10 := lk S 2 1 rfl rfl
  have f11 := (S.at_ 2 rfl).free 1
  have f12 := lk S 2 2 rfl rfl
  have f13 := (S.at_ 2 rfl).free 2
  have f14 := lk S 2 3 rfl rfl
  have f15 := (S.at_ 2 rfl).free 3
  replace S := S.put 2 rfl 0 (.slice Az0 nz0 cz0)
  replace c := st c S (by omega)
  replace S := S.put 2 rfl 1 (.slice Az1 nz1 cz1)
  replace c := st c S (by omega)
  replace S := S.put 2 rfl 2 (.slice Az2 nz2 cz2)
  replace c := st c S (by omega)
  replace S := S.put 2 rfl 3 (.slice Az3 nz3 cz3)
  replace c := st c S (by omega)
  replace S := S.sub (.cons _ (.cons_cons _ (List.nil_sublist _)))
  have H := jd S.first
  have C := jd c
  clear S c h h2
  go_wp2
  exact bodyPost_ret (v := .agg #[.slice Az0 nz0 cz0, .slice Az1 nz1 cz1, .slice Az2 nz2 cz2, .slice Az3 nz3 cz3]) (by simp [results, Try.results34, go_sem, f8, f10, f12, f14]) rfl ⟨_, _, _, _, _, _, _, _, _, _, _, _, rfl, by rw [HR.out]; exact H.out, C.out⟩
 have HR := jd (show mendedAt t i r = bothSynced (bothWrote t i r).1 by simp [mendedAt, hb])
 have hz : (bothWrote t i r).1.sz ≤ 1048576 := by
  have := ok_two_sz (bothWrote_ok (bothWrote_true hb) i r)
  omega
 have HB := jd hb
 clear hb
 have S := Sep.nil w w.heap.size
 have c := Below.refl w.heap.size w
 replace S := S.boxAt c.size (w.heap.size) rfl #[.slice Aa0 na0 ca0, .slice Aa1 na1 ca1, .slice Aa2 na2 ca2, .slice Aa3 na3 ca3] 34
 replace c := al c S
 replace S := S.boxAt c.size (w.heap.size + 1) (by simp) #[.slice none 0 0, .slice none 0 0, .slice none 0 0, .slice none 0 0] 34
 replace c := al c S
 go_enter Try.func34, Try.ntmps34
 have f0 := lk S 1 0 rfl rfl
 have f1 := lk S 1 1 rfl rfl
 have f2 := lk S 1 2 rfl rfl
 have f3 := lk S 1 3 rfl rfl
 go_wp2_with fail
 generalize (w.alloc (.cells #[.slice Aa0 na0 ca0, .slice Aa1 na1 ca1, .slice Aa2 na2 ca2, .slice Aa3 na3 ca3] 34)).alloc (.cells #[.slice none 0 0, .slice none 0 0, .slice none 0 0, .slice none 0 0] 34) = w1 at *
 refine (sBothWrote_any _ _ _ _ _ _ _ _ _ _ _ _ t i _ _ _ r _ ((h.keep c).up c.size) hs ((h2.keep c).up c.size) hs2).mono ?_
 rintro e w2 ⟨Az0, nz0, cz0, Az1, nz1, cz1, Az2, nz2, cz2, Az3, nz3, cz3, rfl, o, b⟩
 obtain ⟨fp_z, S'⟩ := S.has b o c.size
 replace c := c.trans (b.mono c.size)
 clear S; have S := S'; clear S' o b f0 f1 f2 f3
 rw [HB.out]
 replace S := S.boxAt c.size (w2.heap.size) rfl #[.slice Az0 nz0 cz0, .slice Az1 nz1 cz1, .slice Az2 nz2 cz2, .slice Az3 nz3 cz3] 34
 replace c := al c S
 have f4 := lk S 0 0 rfl rfl
 have f5 := lk S 0 1 rfl rfl
 have f6 := lk S 0 2 rfl rfl
 have f7 := lk S 0 3 rfl rfl
 go_wp2_with fail
 generalize w2.alloc (.cells #[.slice Az0 nz0 cz0, .slice Az1 nz1 cz1, .slice Az2 nz2 cz2, .slice Az3 nz3 cz3] 34) = w3 at *
 refine (sBothSynced_any _ _ _ _ _ _ _ _ _ _ _ _ (bothWrote t i r).1 _ ((S.own_ 1 rfl).rd) hz).mono ?_
 rintro e w4 ⟨Ay0, ny0, cy0, Ay1, ny1, cy1, Ay2, ny2, cy2, Ay3, ny3, cy3, rfl, o, b⟩
 obtain ⟨fp_y, S'⟩ := S.has b o c.size
 replace c := c.trans (b.mono c.size)
 clear S; have S := S'; clear S' o b f4 f5 f6 f7
 have f8 := lk S 3 0 rfl rfl
 have f9 := (S.at_ 3 rfl).free 0
 have f10 := lk S 3 1 rfl rfl
 have f11 := (S.at_ 3 rfl).free 1
 have f12 := lk S 3 2 rfl rfl
 have f13 := (S.at_ 3 rfl).free 2
 have f14 := lk S 3 3 rfl rfl
 have f15 := (S.at_ 3 rfl).free 3
 replace S := S.put 3 rfl 0 (.slice Ay0 ny0 cy0)
 replace c := st c S (by omega)
 replace S := S.put 3 rfl 1 (.slice Ay1 ny1 cy1)
 replace c := st c S (by omega)
 replace S := S.put 3 rfl 2 (.slice Ay2 ny2 cy2)
 replace c := st c S (by omega)
 replace S := S.put 3 rfl 3 (.slice Ay3 ny3 cy3)
 replace c := st c S (by omega)
 have H := jd S.first
 have C := jd c
 clear S c h h2
 go_wp2
 exact bodyPost_ret (v := .agg #[.slice Ay0 ny0 cy0, .slice Ay1 ny1 cy1, .slice Ay2 ny2 cy2, .slice Ay3 ny3 cy3]) (by simp [results, Try.results34, go_sem, f8, f10, f12, f14]) rfl ⟨_, _, _, _, _, _, _, _, _, _, _, _, rfl, by rw [HR.out]; exact H.out, C.out⟩
set_option maxHeartbeats 12800000 in
theorem sRightAt_any (Aa0 : Option Addr) (na0 ca0 : Nat) (Aa1 : Option Addr) (na1 ca1 : Nat) (Aa2 : Option Addr) (na2 ca2 : Nat) (Aa3 : Option Addr) (na3 ca3 : Nat) (t : TwoM) (i : Int) (w : World) (h : Rd w w.heap.size t.cells [.slice Aa0 na0 ca0, .slice Aa1 na1 ca1, .slice Aa2 na2 ca2, .slice Aa3 na3 ca3]) (hs : t.sz ≤ 1048576) :
    Calls Try.prog 57 #[.agg #[.slice Aa0 na0 ca0, .slice Aa1 na1 ca1, .slice Aa2 na2 ca2, .slice Aa3 na3 ca3], .int .i64 i] w fun e w' => ∃ A n c, e = .returned (.slice A n c) ∧ Has w' w.heap.size [keptD (rightAt t i)] [.slice A n c] ∧ Below w.heap.size w w' := by
 obtain ⟨ha, hb⟩ := h.halves
 have hsa : t.a.sz ≤ 1048576 := by unfold TwoM.sz at hs; omega
 have hsb : t.b.sz ≤ 1048576 := by unfold TwoM.sz at hs; omega
 have hn0 : na0 ≤ 1048577 := by
  have := rdKeptLen ha
  unfold DiskM.sz rowsSz at hsa
  omega
 cases hok : twoOk t
 case false =>
  have HR := jd (show rightAt t i = [] by simp [rightAt, hok])
  have HT := jd hok
  clear hok
  have S := Sep.nil w w.heap.size
  have c := Below.refl w.heap.size w
  replace S := S.boxAt c.size (w.heap.size) rfl #[.slice Aa0 na0 ca0, .slice Aa1 na1 ca1, .slice Aa2 na2 ca2, .slice Aa3 na3 ca3] 34
  replace c := al c S
  obtain ⟨fp_o, S'⟩ := S.has ((Below.refl _ _).alloc (Nat.le_refl _) (.cells #[] 71)) (own_lit_rows (p := w.heap.size + 1) (by simp)) c.size
  replace c := c.alloc c.size (.cells #[] 71)
  clear S; have S := S'; clear S'
  go_enter Try.func57, Try.ntmps57
  have f0 := lk S 1 0 rfl rfl
  have f1 := lk S 1 1 rfl rfl
  have f2 := lk S 1 2 rfl rfl
  have f3 := lk S 1 3 rfl rfl
  go_wp2_with fail
  generalize (w.alloc (.cells #[.slice Aa0 na0 ca0, .slice Aa1 na1 ca1, .slice Aa2 na2 ca2, .slice Aa3 na3 ca3] 34)).alloc (.cells #[] 71) = w1 at *
  refine (sTwoOk_any _ _ _ _ _ _ _ _ _ _ _ _ t _ _ (h.keep c) c.size (by omega)).mono ?_
  rintro e w2 ⟨rfl, b⟩
  replace c := c.trans (b.mono c.size)
  replace S := S.keep b
  clear b f0 f1 f2 f3
  rw [HT.out]
  replace S := S.sub (.cons_cons _ (List.nil_sublist _))
  have H := jd S.first
  have C := jd c
  clear S c h ha hb
  go_wp2
  go_ret
  exact ⟨_, _, _, rfl, by rw [HR.out]; exact H.out, C.out⟩
 have HT := jd hok
 cases hh : hasS t.a i
 case false =>
  have HR := jd (show rightAt t i = [] by simp [rightAt, hh])
  have HH := jd hh
  clear hok hh
  have S := Sep.nil w w.heap.size
  have c := Below.refl w.heap.size w
  replace S := S.boxAt c.size (w.heap.size) rfl #[.slice Aa0 na0 ca0, .slice Aa1 na1 ca1, .slice Aa2 na2 ca2, .slice Aa3 na3 ca3] 34
  replace c := al c S
  obtain ⟨fp_o, S'⟩ := S.has ((Below.refl _ _).alloc (Nat.le_refl _) (.cells #[] 71)) (own_lit_rows (p := w.heap.size + 1) (by simp)) c.size
  replace c := c.alloc c.size (.cells #[] 71)
  clear S; have S := S'; clear S'
  go_enter Try.func57, Try.ntmps57
  have f0 := lk S 1 0 rfl rfl
  have f1 := lk S 1 1 rfl rfl
  have f2 := lk S 1 2 rfl rfl
  have f3 := lk S 1 3 rfl rfl
  go_wp2_with fail
  generalize (w.alloc (.cells #[.slice Aa0 na0 ca0, .slice Aa1 na1 ca1, .slice Aa2 na2 ca2, .slice Aa3 na3 ca3] 34)).alloc (.cells #[] 71) = w1 at *
  refine (sTwoOk_any _ _ _ _ _ _ _ _ _ _ _ _ t _ _ (h.keep c) c.size (by omega)).mono ?_
  rintro e w2 ⟨rfl, b⟩
  replace c := c.trans (b.mono c.size)
  replace S := S.keep b
  clear b f0 f1 f2 f3
  rw [HT.out]
  have f4 := lk S 1 0 rfl rfl
  have f5 := lk S 1 1 rfl rfl
  go_wp2_with fail
  refine (sHas_any _ _ _ _ _ _ t.a i _ (rdKeptLen ha) hn0).mono ?_
  rintro e w3 ⟨rfl, b⟩
  replace c := c.trans (b.mono c.size)
  replace S := S.keep b
  clear b f4 f5
  rw [HH.out]
  replace S := S.sub (.cons_cons _ (List.nil_sublist _))
  have H := jd S.first
  have C := jd c
  clear S c h ha hb
  go_wp2
  go_ret
  exact ⟨_, _, _, rfl, by rw [HR.out]; exact H.out, C.out⟩
 have HH := jd hh
 cases h1 : (rightOf t.a i).2
 case false =>
  have H1 := jd (show (unsummed (readAt t.a i).1).2 = false from h1)
  cases h2 : (rightOf t.b i).2
  case false =>
   have HR := jd (show rightAt t i = [] by simp [rightAt, h1, h2])
   have H2 := jd (show (unsummed (readAt t.b i).1).2 = false from h2)
   clear hok hh h1 h2
   have S := Sep.nil w w.heap.size
   have c := Below.refl w.heap.size w
   replace S := S.boxAt c.size (w.heap.size) rfl #[.slice Aa0 na0 ca0, .slice Aa1 na1 ca1, .slice Aa2 na2 ca2, .slice Aa3 na3 ca3] 34
   replace c := al c S
   obtain ⟨fp_o, S'⟩ := S.has ((Below.refl _ _).alloc (Nat.le_refl _) (.cells #[] 71)) (own_lit_rows (p := w.heap.size + 1) (by simp)) c.size
   replace c := c.alloc c.size (.cells #[] 71)
   clear S; have S := S'; clear S'
   go_enter Try.func57, Try.ntmps57
   have f0 := lk S 1 0 rfl rfl
   have f1 := lk S 1 1 rfl rfl
   have f2 := lk S 1 2 rfl rfl
   have f3 := lk S 1 3 rfl rfl
   go_wp2_with fail
   generalize (w.alloc (.cells #[.slice Aa0 na0 ca0, .slice Aa1 na1 ca1, .slice Aa2 na2 ca2, .slice Aa3 na3 ca3] 34)).alloc (.cells #[] 71) = w1 at *
   refine (sTwoOk_any _ _ _ _ _ _ _ _ _ _ _ _ t _ _ (h.keep c) c.size (by omega)).mono ?_
   rintro e w2 ⟨rfl, b⟩
   replace c := c.trans (b.mono c.size)
   replace S := S.keep b
   clear b f0 f1 f2 f3
   rw [HT.out]
   have f4 := lk S 1 0 rfl rfl
   have f5 := lk S 1 1 rfl rfl
   go_wp2_with fail
   refine (sHas_any _ _ _ _ _ _ t.a i _ (rdKeptLen ha) hn0).mono ?_
   rintro e w3 ⟨rfl, b⟩
   replace c := c.trans (b.mono c.size)
   replace S := S.keep b
   clear b f4 f5
   rw [HH.out]
   have f6 := lk S 1 0 rfl rfl
   have f7 := lk S 1 1 rfl rfl
   go_wp2_with fail
   refine (sReadAt_any _ _ t.a i _ ((ha.keep c).up c.size) (by omega)).mono ?_
   rintro e w4 ⟨Ax0, nx0, cx0, rfl, o, b⟩
   obtain ⟨fp_x, S'⟩ := S.has b o c.size
   replace c := c.trans (b.mono c.size)
   clear S; have S := S'; clear S' o b f6 f7
   have f8 := lk S 2 2 rfl rfl
   have f9 := lk S 2 3 rfl rfl
   go_wp2_with fail
   refine (sReadAt_any _ _ t.b i _ ((hb.keep c).up c.size) (by omega)).mono ?_
   rintro e w5 ⟨Ay0, ny0, cy0, rfl, o, b⟩
   obtain ⟨fp_y, S'⟩ := S.has b o c.size
   replace c := c.trans (b.mono c.size)
   clear S; have S := S'; clear S' o b f8 f9
   go_wp2_with fail
   refine (sUnsD _ _ _ _ _ ((S.own_ 1 rfl).rd) (readAt_sz _ _ hsa)).mono ?_
   rintro e w6 ⟨Ap0, np0, cp0, rfl, o, b⟩
   obtain ⟨fp_p, S'⟩ := S.has b o c.size
   replace c := c.trans (b.mono c.size)
   clear S; have S := S'; clear S' o b
   rw [H1.out]
   go_wp2_with fail
   refine (sUnsD _ _ _ _ _ ((S.own_ 1 rfl).rd) (readAt_sz _ _ hsb)).mono ?_
   rintro e w7 ⟨Aq0, nq0, cq0, rfl, o, b⟩
   obtain ⟨fp_q, S'⟩ := S.has b o c.size
   replace c := c.trans (b.mono c.size)
   clear S; have S := S'; clear S' o b
   rw [H2.out]
   replace S := S.sub (.cons_cons _ (.cons_cons _ (.cons _ (.cons _ (.cons_cons _ (.cons_cons _ (List.nil_sublist _)))))))
   change Sep _ _ [.own (rowCells (rightOf t.b i).1) _ _, .own (rowCells (rightOf t.a i).1) _ _, _, _] at S
   replace S := S.sub (.cons _ (.cons _ (.cons_cons _ (List.nil_sublist _))))
   have H := jd S.first
   have C := jd c
   clear S c h ha hb
   go_wp2
   go_ret
   exact ⟨_, _, _, rfl, by rw [HR.out]; exact H.out, C.out⟩
  have HR := jd (show rightAt t i = [] ++ [(rightOf t.b i).1] by simp [rightAt, h1, h2, hok, hh])
  have H2 := jd (show (unsummed (readAt t.b i).1).2 = true from h2)
  clear hok hh h1 h2
  have S := Sep.nil w w.heap.size
  have c := Below.refl w.heap.size w
  replace S := S.boxAt c.size (w.heap.size) rfl #[.slice Aa0 na0 ca0, .slice Aa1 na1 ca1, .slice Aa2 na2 ca2, .slice Aa3 na3 ca3] 34
  replace c := al c S
  obtain ⟨fp_o, S'⟩ := S.has ((Below.refl _ _).alloc (Nat.le_refl _) (.cells #[] 71)) (own_lit_rows (p := w.heap.size + 1) (by simp)) c.size
  replace c := c.alloc c.size (.cells #[] 71)
  clear S; have S := S'; clear S'
  go_enter Try.func57, Try.ntmps57
  have f0 := lk S 1 0 rfl rfl
  have f1 := lk S 1 1 rfl rfl
  have f2 := lk S 1 2 rfl rfl
  have f3 := lk S 1 3 rfl rfl
  go_wp2_with fail
  generalize (w.alloc (.cells #[.slice Aa0 na0 ca0, .slice Aa1 na1 ca1, .slice Aa2 na2 ca2, .slice Aa3 na3 ca3] 34)).alloc (.cells #[] 71) = w1 at *
  refine (sTwoOk_any _ _ _ _ _ _ _ _ _ _ _ _ t _ _ (h.keep c) c.size (by omega)).mono ?_
  rintro e w2 ⟨rfl, b⟩
  replace c := c.trans (b.mono c.size)
  replace S := S.keep b
  clear b f0 f1 f2 f3
  rw [HT.out]
  have f4 := lk S 1 0 rfl rfl
  have f5 := lk S 1 1 rfl rfl
  go_wp2_with fail
  refine (sHas_any _ _ _ _ _ _ t.a i _ (rdKeptLen ha) hn0).mono ?_
  rintro e w3 ⟨rfl, b⟩
  replace c := c.trans (b.mono c.size)
  replace S := S.keep b
  clear b f4 f5
  rw [HH.out]
  have f6 := lk S 1 0 rfl rfl
  have f7 := lk S 1 1 rfl rfl
  go_wp2_with fail
  refine (sReadAt_any _ _ t.a i _ ((ha.keep c).up c.size) (by omega)).mono ?_
  rintro e w4 ⟨Ax0, nx0, cx0, rfl, o, b⟩
  obtain ⟨fp_x, S'⟩ := S.has b o c.size
  replace c := c.trans (b.mono c.size)
  clear S; have S := S'; clear S' o b f6 f7
  have f8 := lk S 2 2 rfl rfl
  have f9 := lk S 2 3 rfl rfl
  go_wp2_with fail
  refine (sReadAt_any _ _ t.b i _ ((hb.keep c).up c.size) (by omega)).mono ?_
  rintro e w5 ⟨Ay0, ny0, cy0, rfl, o, b⟩
  obtain ⟨fp_y, S'⟩ := S.has b o c.size
  replace c := c.trans (b.mono c.size)
  clear S; have S := S'; clear S' o b f8 f9
  go_wp2_with fail
  refine (sUnsD _ _ _ _ _ ((S.own_ 1 rfl).rd) (readAt_sz _ _ hsa)).mono ?_
  rintro e w6 ⟨Ap0, np0, cp0, rfl, o, b⟩
  obtain ⟨fp_p, S'⟩ := S.has b o c.size
  replace c := c.trans (b.mono c.size)
  clear S; have S := S'; clear S' o b
  rw [H1.out]
  go_wp2_with fail
  refine (sUnsD _ _ _ _ _ ((S.own_ 1 rfl).rd) (readAt_sz _ _ hsb)).mono ?_
  rintro e w7 ⟨Aq0, nq0, cq0, rfl, o, b⟩
  obtain ⟨fp_q, S'⟩ := S.has b o c.size
  replace c := c.trans (b.mono c.size)
  clear S; have S := S'; clear S' o b
  rw [H2.out]
  replace S := S.sub (.cons_cons _ (.cons_cons _ (.cons _ (.cons _ (.cons_cons _ (.cons_cons _ (List.nil_sublist _)))))))
  change Sep _ _ [.own (rowCells (rightOf t.b i).1) _ _, .own (rowCells (rightOf t.a i).1) _ _, _, _] at S
  replace S := S.boxAt c.size (w7.heap.size) rfl #[.slice Aq0 nq0 cq0] 71
  replace c := al c S
  have HC : ∀ i, i < 1 → (w7.alloc (.cells #[.slice Aq0 nq0 cq0] 71)).cell? ⟨w7.heap.size, i, none⟩ = [Value.slice Aq0 nq0 cq0][i]? := fun i hi => by
   have h1 := (S.at_ 0 rfl).cell i
   have : i = 0 := by omega
   subst this
   exact h1
  replace S := S.pick 1 rfl
  replace S := S.pick 3 rfl
  go_wp2_with (first
   | (at_builtin
      refine wpList_append_elem (l := []) (y := (rightOf t.b i).1) rfl (.tmp 65) (.tmp 67) (by rfl) Try.underlying22 infoRow (by rfl) (by decide) rowC_len (by rfl) (S.own_ 0 rfl) (S.nodup_own 0 rfl) (by rfl) HC (S.own_ 1 rfl) (S.nodup_own 1 rfl) S.apart (by omega) (by omega) ?_
      intro Al0 cl0 w8 fp_l o3 n3 s3 t3))
  have S' := S.merge t3 o3 n3 s3 c.size
  replace c := c.trans (S.below 0 rfl t3 c.size)
  clear S; have S := S'; clear S' o3 n3 s3 t3 HC
  replace S := S.sub (.cons_cons _ (List.nil_sublist _))
  have H := jd S.first
  have C := jd c
  clear S c h ha hb
  go_ret
  exact ⟨_, _, _, rfl, by rw [HR.out]; exact H.out, C.out⟩
 have H1 := jd (show (unsummed (readAt t.a i).1).2 = true from h1)
 cases h2 : (rightOf t.b i).2
 case false =>
  have HR := jd (show rightAt t i = [] ++ [(rightOf t.a i).1] by simp [rightAt, h1, h2, hok, hh])
  have H2 := jd (show (unsummed (readAt t.b i).1).2 = false from h2)
  clear hok hh h1 h2
  have S := Sep.nil w w.heap.size
  have c := Below.refl w.heap.size w
  replace S := S.boxAt c.size (w.heap.size) rfl #[.slice Aa0 na0 ca0, .slice Aa1 na1 ca1, .slice Aa2 na2 ca2, .slice Aa3 na3 ca3] 34
  replace c := al c S
  obtain ⟨fp_o, S'⟩ := S.has ((Below.refl _ _).alloc (Nat.le_refl _) (.cells #[] 71)) (own_lit_rows (p := w.heap.size + 1) (by simp)) c.size
  replace c := c.alloc c.size (.cells #[] 71)
  clear S; have S := S'; clear S'
  go_enter Try.func57, Try.ntmps57
  have f0 := lk S 1 0 rfl rfl
  have f1 := lk S 1 1 rfl rfl
  have f2 := lk S 1 2 rfl rfl
  have f3 := lk S 1 3 rfl rfl
  go_wp2_with fail
  generalize (w.alloc (.cells #[.slice Aa0 na0 ca0, .slice Aa1 na1 ca1, .slice Aa2 na2 ca2, .slice Aa3 na3 ca3] 34)).alloc (.cells #[] 71) = w1 at *
  refine (sTwoOk_any _ _ _ _ _ _ _ _ _ _ _ _ t _ _ (h.keep c) c.size (by omega)).mono ?_
  rintro e w2 ⟨rfl, b⟩
  replace c := c.trans (b.mono c.size)
  replace S := S.keep b
  clear b f0 f1 f2 f3
  rw [HT.out]
  have f4 := lk S 1 0 rfl rfl
  have f5 := lk S 1 1 rfl rfl
  go_wp2_with fail
  refine (sHas_any _ _ _ _ _ _ t.a i _ (rdKeptLen ha) hn0).mono ?_
  rintro e w3 ⟨rfl, b⟩
  replace c := c.trans (b.mono c.size)
  replace S := S.keep b
  clear b f4 f5
  rw [HH.out]
  have f6 := lk S 1 0 rfl rfl
  have f7 := lk S 1 1 rfl rfl
  go_wp2_with fail
  refine (sReadAt_any _ _ t.a i _ ((ha.keep c).up c.size) (by omega)).mono ?_
  rintro e w4 ⟨Ax0, nx0, cx0, rfl, o, b⟩
  obtain ⟨fp_x, S'⟩ := S.has b o c.size
  replace c := c.trans (b.mono c.size)
  clear S; have S := S'; clear S' o b f6 f7
  have f8 := lk S 2 2 rfl rfl
  have f9 := lk S 2 3 rfl rfl
  go_wp2_with fail
  refine (sReadAt_any _ _ t.b i _ ((hb.keep c).up c.size) (by omega)).mono ?_
  rintro e w5 ⟨Ay0, ny0, cy0, rfl, o, b⟩
  obtain ⟨fp_y, S'⟩ := S.has b o c.size
  replace c := c.trans (b.mono c.size)
  clear S; have S := S'; clear S' o b f8 f9
  go_wp2_with fail
  refine (sUnsD _ _ _ _ _ ((S.own_ 1 rfl).rd) (readAt_sz _ _ hsa)).mono ?_
  rintro e w6 ⟨Ap0, np0, cp0, rfl, o, b⟩
  obtain ⟨fp_p, S'⟩ := S.has b o c.size
  replace c := c.trans (b.mono c.size)
  clear S; have S := S'; clear S' o b
  rw [H1.out]
  go_wp2_with fail
  refine (sUnsD _ _ _ _ _ ((S.own_ 1 rfl).rd) (readAt_sz _ _ hsb)).mono ?_
  rintro e w7 ⟨Aq0, nq0, cq0, rfl, o, b⟩
  obtain ⟨fp_q, S'⟩ := S.has b o c.size
  replace c := c.trans (b.mono c.size)
  clear S; have S := S'; clear S' o b
  rw [H2.out]
  replace S := S.sub (.cons_cons _ (.cons_cons _ (.cons _ (.cons _ (.cons_cons _ (.cons_cons _ (List.nil_sublist _)))))))
  change Sep _ _ [.own (rowCells (rightOf t.b i).1) _ _, .own (rowCells (rightOf t.a i).1) _ _, _, _] at S
  replace S := S.boxAt c.size (w7.heap.size) rfl #[.slice Ap0 np0 cp0] 71
  replace c := al c S
  have HC : ∀ i, i < 1 → (w7.alloc (.cells #[.slice Ap0 np0 cp0] 71)).cell? ⟨w7.heap.size, i, none⟩ = [Value.slice Ap0 np0 cp0][i]? := fun i hi => by
   have h1 := (S.at_ 0 rfl).cell i
   have : i = 0 := by omega
   subst this
   exact h1
  replace S := S.pick 2 rfl
  replace S := S.pick 3 rfl
  go_wp2_with (first
   | (at_builtin
      refine wpList_append_elem (l := []) (y := (rightOf t.a i).1) rfl (.tmp 51) (.tmp 53) (by rfl) Try.underlying22 infoRow (by rfl) (by decide) rowC_len (by rfl) (S.own_ 0 rfl) (S.nodup_own 0 rfl) (by rfl) HC (S.own_ 1 rfl) (S.nodup_own 1 rfl) S.apart (by omega) (by omega) ?_
      intro Al0 cl0 w8 fp_l o3 n3 s3 t3))
  have S' := S.merge t3 o3 n3 s3 c.size
  replace c := c.trans (S.below 0 rfl t3 c.size)
  clear S; have S := S'; clear S' o3 n3 s3 t3 HC
  replace S := S.sub (.cons_cons _ (List.nil_sublist _))
  have H := jd S.first
  have C := jd c
  clear S c h ha hb
  go_ret
  exact ⟨_, _, _, rfl, by rw [HR.out]; exact H.out, C.out⟩
 have H2 := jd (show (unsummed (readAt t.b i).1).2 = true from h2)
 have hp1 : (rightOf t.a i).1.length ≤ 1048577 := Nat.le_trans (unsummed_len _) (by omega)
 have hq1 : (rightOf t.b i).1.length ≤ 1048577 := Nat.le_trans (unsummed_len _) (by omega)
 cases hsm : sameI (rightOf t.a i).1 (rightOf t.b i).1
 case true =>
  have HS := jd hsm
  have HR := jd (show rightAt t i = [] ++ [(rightOf t.a i).1] by
   have e : (rightOf t.a i).1 = (rightOf t.b i).1 := by simpa [sameI] using hsm
   simp [rightAt, h1, h2, hok, hh, e])
  clear hok hh h1 h2 hsm
  have S := Sep.nil w w.heap.size
  have c := Below.refl w.heap.size w
  replace S := S.boxAt c.size (w.heap.size) rfl #[.slice Aa0 na0 ca0, .slice Aa1 na1 ca1, .slice Aa2 na2 ca2, .slice Aa3 na3 ca3] 34
  replace c := al c S
  obtain ⟨fp_o, S'⟩ := S.has ((Below.refl _ _).alloc (Nat.le_refl _) (.cells #[] 71)) (own_lit_rows (p := w.heap.size + 1) (by simp)) c.size
  replace c := c.alloc c.size (.cells #[] 71)
  clear S; have S := S'; clear S'
  go_enter Try.func57, Try.ntmps57
  have f0 := lk S 1 0 rfl rfl
  have f1 := lk S 1 1 rfl rfl
  have f2 := lk S 1 2 rfl rfl
  have f3 := lk S 1 3 rfl rfl
  go_wp2_with fail
  generalize (w.alloc (.cells #[.slice Aa0 na0 ca0, .slice Aa1 na1 ca1, .slice Aa2 na2 ca2, .slice Aa3 na3 ca3] 34)).alloc (.cells #[] 71) = w1 at *
  refine (sTwoOk_any _ _ _ _ _ _ _ _ _ _ _ _ t _ _ (h.keep c) c.size (by omega)).mono ?_
  rintro e w2 ⟨rfl, b⟩
  replace c := c.trans (b.mono c.size)
  replace S := S.keep b
  clear b f0 f1 f2 f3
  rw [HT.out]
  have f4 := lk S 1 0 rfl rfl
  have f5 := lk S 1 1 rfl rfl
  go_wp2_with fail
  refine (sHas_any _ _ _ _ _ _ t.a i _ (rdKeptLen ha) hn0).mono ?_
  rintro e w3 ⟨rfl, b⟩
  replace c := c.trans (b.mono c.size)
  replace S := S.keep b
  clear b f4 f5
  rw [HH.out]
  have f6 := lk S 1 0 rfl rfl
  have f7 := lk S 1 1 rfl rfl
  go_wp2_with fail
  refine (sReadAt_any _ _ t.a i _ ((ha.keep c).up c.size) (by omega)).mono ?_
  rintro e w4 ⟨Ax0, nx0, cx0, rfl, o, b⟩
  obtain ⟨fp_x, S'⟩ := S.has b o c.size
  replace c := c.trans (b.mono c.size)
  clear S; have S := S'; clear S' o b f6 f7
  have f8 := lk S 2 2 rfl rfl
  have f9 := lk S 2 3 rfl rfl
  go_wp2_with fail
  refine (sReadAt_any _ _ t.b i _ ((hb.keep c).up c.size) (by omega)).mono ?_
  rintro e w5 ⟨Ay0, ny0, cy0, rfl, o, b⟩
  obtain ⟨fp_y, S'⟩ := S.has b o c.size
  replace c := c.trans (b.mono c.size)
  clear S; have S := S'; clear S' o b f8 f9
  go_wp2_with fail
  refine (sUnsD _ _ _ _ _ ((S.own_ 1 rfl).rd) (readAt_sz _ _ hsa)).mono ?_
  rintro e w6 ⟨Ap0, np0, cp0, rfl, o, b⟩
  obtain ⟨fp_p, S'⟩ := S.has b o c.size
  replace c := c.trans (b.mono c.size)
  clear S; have S := S'; clear S' o b
  rw [H1.out]
  go_wp2_with fail
  refine (sUnsD _ _ _ _ _ ((S.own_ 1 rfl).rd) (readAt_sz _ _ hsb)).mono ?_
  rintro e w7 ⟨Aq0, nq0, cq0, rfl, o, b⟩
  obtain ⟨fp_q, S'⟩ := S.has b o c.size
  replace c := c.trans (b.mono c.size)
  clear S; have S := S'; clear S' o b
  rw [H2.out]
  replace S := S.sub (.cons_cons _ (.cons_cons _ (.cons _ (.cons _ (.cons_cons _ (.cons_cons _ (List.nil_sublist _)))))))
  change Sep _ _ [.own (rowCells (rightOf t.b i).1) _ _, .own (rowCells (rightOf t.a i).1) _ _, _, _] at S
  replace S := S.boxAt c.size (w7.heap.size) rfl #[.slice Ap0 np0 cp0] 71
  replace c := al c S
  have HC : ∀ i, i < 1 → (w7.alloc (.cells #[.slice Ap0 np0 cp0] 71)).cell? ⟨w7.heap.size, i, none⟩ = [Value.slice Ap0 np0 cp0][i]? := fun i hi => by
   have h1 := (S.at_ 0 rfl).cell i
   have : i = 0 := by omega
   subst this
   exact h1
  replace S := S.pick 2 rfl
  replace S := S.pick 3 rfl
  go_wp2_with (first
   | (at_builtin
      refine wpList_append_elem (l := []) (y := (rightOf t.a i).1) rfl (.tmp 51) (.tmp 53) (by rfl) Try.underlying22 infoRow (by rfl) (by decide) rowC_len (by rfl) (S.own_ 0 rfl) (S.nodup_own 0 rfl) (by rfl) HC (S.own_ 1 rfl) (S.nodup_own 1 rfl) S.apart (by omega) (by omega) ?_
      intro Al0 cl0 w8 fp_l o3 n3 s3 t3))
  have OP := ((S.own_ 1 rfl).touch t3 S.apart).rd
  have S' := S.merge t3 o3 n3 s3 c.size
  replace c := c.trans (S.below 0 rfl t3 c.size)
  clear S; have S := S'; clear S' o3 n3 s3 t3 HC
  refine (sSameD _ _ _ _ _ _ _ _ _ _ _ OP ((S.own_ 2 rfl).rd) hp1 hq1).mono ?_
  rintro e w9 ⟨rfl, b⟩
  replace c := c.trans (b.mono c.size)
  replace S := S.keep b
  clear b
  rw [HS.out]
  clear OP
  replace S := S.sub (.cons_cons _ (List.nil_sublist _))
  have H := jd S.first
  have C := jd c
  clear S c h ha hb
  go_wp2
  go_ret
  exact ⟨_, _, _, rfl, by rw [HR.out]; exact H.out, C.out⟩
 have HS := jd hsm
 have HR := jd (show rightAt t i = [] ++ [(rightOf t.a i).1] ++ [(rightOf t.b i).1] by
  have e : ¬ ((rightOf t.a i).1 = (rightOf t.b i).1) := by simpa [sameI] using hsm
  simp [rightAt, h1, h2, hok, hh, e])
 clear hok hh h1 h2 hsm
 have S := Sep.nil w w.heap.size
 have c := Below.refl w.heap.size w
 replace S := S.boxAt c.size (w.heap.size) rfl #[.slice Aa0 na0 ca0, .slice Aa1 na1 ca1, .slice Aa2 na2 ca2, .slice Aa3 na3 ca3] 34
 replace c := al c S
 obtain ⟨fp_o, S'⟩ := S.has ((Below.refl _ _).alloc (Nat.le_refl _) (.cells #[] 71)) (own_lit_rows (p := w.heap.size + 1) (by simp)) c.size
 replace c := c.alloc c.size (.cells #[] 71)
 clear S; have S := S'; clear S'
 go_enter Try.func57, Try.ntmps57
 have f0 := lk S 1 0 rfl rfl
 have f1 := lk S 1 1 rfl rfl
 have f2 := lk S 1 2 rfl rfl
 have f3 := lk S 1 3 rfl rfl
 go_wp2_with fail
 generalize (w.alloc (.cells #[.slice Aa0 na0 ca0, .slice Aa1 na1 ca1, .slice Aa2 na2 ca2, .slice Aa3 na3 ca3] 34)).alloc (.cells #[] 71) = w1 at *
 refine (sTwoOk_any _ _ _ _ _ _ _ _ _ _ _ _ t _ _ (h.keep c) c.size (by omega)).mono ?_
 rintro e w2 ⟨rfl, b⟩
 replace c := c.trans (b.mono c.size)
 replace S := S.keep b
 clear b f0 f1 f2 f3
 rw [HT.out]
 have f4 := lk S 1 0 rfl rfl
 have f5 := lk S 1 1 rfl rfl
 go_wp2_with fail
 refine (sHas_any _ _ _ _ _ _ t.a i _ (rdKeptLen ha) hn0).mono ?_
 rintro e w3 ⟨rfl, b⟩
 replace c := c.trans (b.mono c.size)
 replace S := S.keep b
 clear b f4 f5
 rw [HH.out]
 have f6 := lk S 1 0 rfl rfl
 have f7 := lk S 1 1 rfl rfl
 go_wp2_with fail
 refine (sReadAt_any _ _ t.a i _ ((ha.keep c).up c.size) (by omega)).mono ?_
 rintro e w4 ⟨Ax0, nx0, cx0, rfl, o, b⟩
 obtain ⟨fp_x, S'⟩ := S.has b o c.size
 replace c := c.trans (b.mono c.size)
 clear S; have S := S'; clear S' o b f6 f7
 have f8 := lk S 2 2 rfl rfl
 have f9 := lk S 2 3 rfl rfl
 go_wp2_with fail
 refine (sReadAt_any _ _ t.b i _ ((hb.keep c).up c.size) (by omega)).mono ?_
 rintro e w5 ⟨Ay0, ny0, cy0, rfl, o, b⟩
 obtain ⟨fp_y, S'⟩ := S.has b o c.size
 replace c := c.trans (b.mono c.size)
 clear S; have S := S'; clear S' o b f8 f9
 go_wp2_with fail
 refine (sUnsD _ _ _ _ _ ((S.own_ 1 rfl).rd) (readAt_sz _ _ hsa)).mono ?_
 rintro e w6 ⟨Ap0, np0, cp0, rfl, o, b⟩
 obtain ⟨fp_p, S'⟩ := S.has b o c.size
 replace c := c.trans (b.mono c.size)
 clear S; have S := S'; clear S' o b
 rw [H1.out]
 go_wp2_with fail
 refine (sUnsD _ _ _ _ _ ((S.own_ 1 rfl).rd) (readAt_sz _ _ hsb)).mono ?_
 rintro e w7 ⟨Aq0, nq0, cq0, rfl, o, b⟩
 obtain ⟨fp_q, S'⟩ := S.has b o c.size
 replace c := c.trans (b.mono c.size)
 clear S; have S := S'; clear S' o b
 rw [H2.out]
 replace S := S.sub (.cons_cons _ (.cons_cons _ (.cons _ (.cons _ (.cons_cons _ (.cons_cons _ (List.nil_sublist _)))))))
 change Sep _ _ [.own (rowCells (rightOf t.b i).1) _ _, .own (rowCells (rightOf t.a i).1) _ _, _, _] at S
 replace S := S.boxAt c.size (w7.heap.size) rfl #[.slice Ap0 np0 cp0] 71
 replace c := al c S
 have HC : ∀ i, i < 1 → (w7.alloc (.cells #[.slice Ap0 np0 cp0] 71)).cell? ⟨w7.heap.size, i, none⟩ = [Value.slice Ap0 np0 cp0][i]? := fun i hi => by
  have h1 := (S.at_ 0 rfl).cell i
  have : i = 0 := by omega
  subst this
  exact h1
 replace S := S.pick 2 rfl
 replace S := S.pick 3 rfl
 go_wp2_with (first
  | (at_builtin
     refine wpList_append_elem (l := []) (y := (rightOf t.a i).1) rfl (.tmp 51) (.tmp 53) (by rfl) Try.underlying22 infoRow (by rfl) (by decide) rowC_len (by rfl) (S.own_ 0 rfl) (S.nodup_own 0 rfl) (by rfl) HC (S.own_ 1 rfl) (S.nodup_own 1 rfl) S.apart (by omega) (by omega) ?_
     intro Al0 cl0 w8 fp_l o3 n3 s3 t3))
 have OP := ((S.own_ 1 rfl).touch t3 S.apart).rd
 have S' := S.merge t3 o3 n3 s3 c.size
 replace c := c.trans (S.below 0 rfl t3 c.size)
 clear S; have S := S'; clear S' o3 n3 s3 t3 HC
 refine (sSameD _ _ _ _ _ _ _ _ _ _ _ OP ((S.own_ 2 rfl).rd) hp1 hq1).mono ?_
 rintro e w9 ⟨rfl, b⟩
 replace c := c.trans (b.mono c.size)
 replace S := S.keep b
 clear b
 rw [HS.out]
 clear OP
 replace S := S.boxAt c.size (w9.heap.size) rfl #[.slice Aq0 nq0 cq0] 71
 replace c := al c S
 have HC : ∀ i, i < 1 → (w9.alloc (.cells #[.slice Aq0 nq0 cq0] 71)).cell? ⟨w9.heap.size, i, none⟩ = [Value.slice Aq0 nq0 cq0][i]? := fun i hi => by
  have h1 := (S.at_ 0 rfl).cell i
  have : i = 0 := by omega
  subst this
  exact h1
 replace S := S.pick 3 rfl
 replace S := S.pick 2 rfl
 go_wp2_with (first
  | (at_builtin
     refine wpList_append_elem (l := [] ++ [(rightOf t.a i).1]) (y := (rightOf t.b i).1) rfl (.tmp 65) (.tmp 67) (by rfl) Try.underlying22 infoRow (by rfl) (by decide) rowC_len (by rfl) (S.own_ 0 rfl) (S.nodup_own 0 rfl) (by rfl) HC (S.own_ 1 rfl) (S.nodup_own 1 rfl) S.apart (by omega) (by omega) ?_
     intro Am0 cm0 w10 fp_m o3 n3 s3 t3))
 have S' := S.merge t3 o3 n3 s3 c.size
 replace c := c.trans (S.below 0 rfl t3 c.size)
 clear S; have S := S'; clear S' o3 n3 s3 t3 HC
 replace S := S.sub (.cons_cons _ (List.nil_sublist _))
 have H := jd S.first
 have C := jd c
 clear S c h ha hb
 go_ret
 exact ⟨_, _, _, rfl, by rw [HR.out]; exact H.out, C.out⟩
end Go.Proofs.Ytecihkkagpbkdaa
