/- Parts of my texts: TwoS3 HeadS7 BookM BookN. -/
import Derived.Test.YtmjifhjhialcbaaGreatK17
namespace Go.Proofs.YtmjifhjhialcbaaGreat
set_option maxRecDepth 100000
set_option linter.unusedVariables false
open Go.RowKit
set_option maxHeartbeats 12800000 in
theorem sRightAt_any (Aa0 : Option Addr) (na0 ca0 : Nat) (Aa1 : Option Addr) (na1 ca1 : Nat) (Aa2 : Option Addr) (na2 ca2 : Nat) (Aa3 : Option Addr) (na3 ca3 : Nat) (t : TwoM) (i : Int) (w : World) (h : Rd w w.heap.size t.cells [.slice Aa0 na0 ca0, .slice Aa1 na1 ca1, .slice Aa2 na2 ca2, .slice Aa3 na3 ca3]) (hs : t.sz ≤ 1048576) :
    Calls Tryz.prog 72 #[.agg #[.slice Aa0 na0 ca0, .slice Aa1 na1 ca1, .slice Aa2 na2 ca2, .slice Aa3 na3 ca3], .int .i64 i] w fun e w' => ∃ A n c, e = .returned (.slice A n c) ∧ Has w' w.heap.size [keptD (rightAt t i)] [.slice A n c] ∧ Below w.heap.size w w' := by
 obtain ⟨ha, hb⟩ := h.halves
 have hsa : t.a.sz ≤ 1048576 := by unfold TwoM.sz at hs; omega
 have hsb : t.b.sz ≤ 1048576 := by unfold TwoM.sz at hs; omega
 have hn0 : na0 ≤ 1048577 := by
  have := rdKeptLen ha
  unfold DiskM.sz rowsSz at hsa
  omega
 cases hok : twoOk t
 case false =>
  have HR := jd (show rightAt t i = [] by simp [rightAt, hok])
  have HT := jd hok
  clear hok
  have S := Sep.nil w w.heap.size
  have c := Below.refl w.heap.size w
  replace S := S.boxAt c.size (w.heap.size) rfl #[.slice Aa0 na0 ca0, .slice Aa1 na1 ca1, .slice Aa2 na2 ca2, .slice Aa3 na3 ca3] 35
  replace c := al c S
  obtain ⟨fp_o, S'⟩ := S.has ((Below.refl _ _).alloc (Nat.le_refl _) (.cells #[] 39)) (own_lit_rows (p := w.heap.size + 1) (by simp)) c.size
  replace c := c.alloc c.size (.cells #[] 39)
  clear S; have S := S'; clear S'
  go_enter Tryz.func72, Tryz.ntmps72
  have f0 := lk S 1 0 rfl rfl
  have f1 := lk S 1 1 rfl rfl
  have f2 := lk S 1 2 rfl rfl
  have f3 := lk S 1 3 rfl rfl
  go_wp2_with fail
  generalize (w.alloc (.cells #[.slice Aa0 na0 ca0, .slice Aa1 na1 ca1, .slice Aa2 na2 ca2, .slice Aa3 na3 ca3] 35)).alloc (.cells #[] 39) = w1 at *
  refine (sTwoOk_any _ _ _ _ _ _ _ _ _ _ _ _ t _ _ (h.keep c) c.size (by omega)).mono ?_
  rintro e w2 ⟨rfl, b⟩
  replace c := c.trans (b.mono c.size)
  replace S := S.keep b
  clear b f0 f1 f2 f3
  rw [HT.out]
  replace S := S.sub (.cons_cons _ (List.nil_sublist _))
  have H := jd S.first
  have C := jd c
  clear S c h ha hb
  go_wp2
  go_ret
  exact ⟨_, _, _, rfl, by rw [HR.out]; exact H.out, C.out⟩
 have HT := jd hok
 cases hh : hasS t.a i
 case false =>
  have HR := jd (show rightAt t i = [] by simp [rightAt, hh])
  have HH := jd hh
  clear hok hh
  have S := Sep.nil w w.heap.size
  have c := Below.refl w.heap.size w
  replace S := S.boxAt c.size (w.heap.size) rfl #[.slice Aa0 na0 ca0, .slice Aa1 na1 ca1, .slice Aa2 na2 ca2, .slice Aa3 na3 ca3] 35
  replace c := al c S
  obtain ⟨fp_o, S'⟩ := S.has ((Below.refl _ _).alloc (Nat.le_refl _) (.cells #[] 39)) (own_lit_rows (p := w.heap.size + 1) (by simp)) c.size
  replace c := c.alloc c.size (.cells #[] 39)
  clear S; have S := S'; clear S'
  go_enter Tryz.func72, Tryz.ntmps72
  have f0 := lk S 1 0 rfl rfl
  have f1 := lk S 1 1 rfl rfl
  have f2 := lk S 1 2 rfl rfl
  have f3 := lk S 1 3 rfl rfl
  go_wp2_with fail
  generalize (w.alloc (.cells #[.slice Aa0 na0 ca0, .slice Aa1 na1 ca1, .slice Aa2 na2 ca2, .slice Aa3 na3 ca3] 35)).alloc (.cells #[] 39) = w1 at *
  refine (sTwoOk_any _ _ _ _ _ _ _ _ _ _ _ _ t _ _ (h.keep c) c.size (by omega)).mono ?_
  rintro e w2 ⟨rfl, b⟩
  replace c := c.trans (b.mono c.size)
  replace S := S.keep b
  clear b f0 f1 f2 f3
  rw [HT.out]
  have f4 := lk S 1 0 rfl rfl
  have f5 := lk S 1 1 rfl rfl
  go_wp2_with fail
  refine (sHas_any _ _ _ _ _ _ t.a i _ (rdKeptLen ha) hn0).mono ?_
  rintro e w3 ⟨rfl, b⟩
  replace c := c.trans (b.mono c.size)
  replace S := S.keep b
  clear b f4 f5
  rw [HH.out]
  replace S := S.sub (.cons_cons _ (List.nil_sublist _))
  have H := jd S.first
  have C := jd c
  clear S c h ha hb
  go_wp2
  go_ret
  exact ⟨_, _, _, rfl, by rw [HR.out]; exact H.out, C.out⟩
 have HH := jd hh
 cases h1 : (rightOf t.a i).2
 case false =>
  have H1 := jd (show (unsummed (readAt t.a i).1).2 = false from h1)
  cases h2 : (rightOf t.b i).2
  case false =>
   have HR := jd (show rightAt t i = [] by simp [rightAt, h1, h2])
   have H2 := jd (show (unsummed (readAt t.b i).1).2 = false from h2)
   clear hok hh h1 h2
   have S := Sep.nil w w.heap.size
   have c := Below.refl w.heap.size w
   replace S := S.boxAt c.size (w.heap.size) rfl #[.slice Aa0 na0 ca0, .slice Aa1 na1 ca1, .slice Aa2 na2 ca2, .slice Aa3 na3 ca3] 35
   replace c := al c S
   obtain ⟨fp_o, S'⟩ := S.has ((Below.refl _ _).alloc (Nat.le_refl _) (.cells #[] 39)) (own_lit_rows (p := w.heap.size + 1) (by simp)) c.size
   replace c := c.alloc c.size (.cells #[] 39)
   clear S; have S := S'; clear S'
   go_enter Tryz.func72, Tryz.ntmps72
   have f0 := lk S 1 0 rfl rfl
   have f1 := lk S 1 1 rfl rfl
   have f2 := lk S 1 2 rfl rfl
   have f3 := lk S 1 3 rfl rfl
   go_wp2_with fail
   generalize (w.alloc (.cells #[.slice Aa0 na0 ca0, .slice Aa1 na1 ca1, .slice Aa2 na2 ca2, .slice Aa3 na3 ca3] 35)).alloc (.cells #[] 39) = w1 at *
   refine (sTwoOk_any _ _ _ _ _ _ _ _ _ _ _ _ t _ _ (h.keep c) c.size (by omega)).mono ?_
   rintro e w2 ⟨rfl, b⟩
   replace c := c.trans (b.mono c.size)
   replace S := S.keep b
   clear b f0 f1 f2 f3
   rw [HT.out]
   have f4 := lk S 1 0 rfl rfl
   have f5 := lk S 1 1 rfl rfl
   go_wp2_with fail
   refine (sHas_any _ _ _ _ _ _ t.a i _ (rdKeptLen ha) hn0).mono ?_
   rintro e w3 ⟨rfl, b⟩
   replace c := c.trans (b.mono c.size)
   replace S := S.keep b
   clear b f4 f5
   rw [HH.out]
   have f6 := lk S 1 0 rfl rfl
   have f7 := lk S 1 1 rfl rfl
   go_wp2_with fail
   refine (sReadAt_any _ _ t.a i _ ((ha.keep c).up c.size) (by omega)).mono ?_
   rintro e w4 ⟨Ax0, nx0, cx0, rfl, o, b⟩
   obtain ⟨fp_x, S'⟩ := S.has b o c.size
   replace c := c.trans (b.mono c.size)
   clear S; have S := S'; clear S' o b f6 f7
   have f8 := lk S 2 2 rfl rfl
   have f9 := lk S 2 3 rfl rfl
   go_wp2_with fail
   refine (sReadAt_any _ _ t.b i _ ((hb.keep c).up c.size) (by omega)).mono ?_
   rintro e w5 ⟨Ay0, ny0, cy0, rfl, o, b⟩
   obtain ⟨fp_y, S'⟩ := S.has b o c.size
   replace c := c.trans (b.mono c.size)
   clear S; have S := S'; clear S' o b f8 f9
   go_wp2_with fail
   refine (sUnsD _ _ _ _ _ ((S.own_ 1 rfl).rd) (readAt_sz _ _ hsa)).mono ?_
   rintro e w6 ⟨Ap0, np0, cp0, rfl, o, b⟩
   obtain ⟨fp_p, S'⟩ := S.has b o c.size
   replace c := c.trans (b.mono c.size)
   clear S; have S := S'; clear S' o b
   rw [H1.out]
   go_wp2_with fail
   refine (sUnsD _ _ _ _ _ ((S.own_ 1 rfl).rd) (readAt_sz _ _ hsb)).mono ?_
   rintro e w7 ⟨Aq0, nq0, cq0, rfl, o, b⟩
   obtain ⟨fp_q, S'⟩ := S.has b o c.size
   replace c := c.trans (b.mono c.size)
   clear S; have S := S'; clear S' o b
   rw [H2.out]
   replace S := S.sub (.cons_cons _ (.cons_cons _ (.cons _ (.cons _ (.cons_cons _ (.cons_cons _ (List.nil_sublist _)))))))
   change Sep _ _ [.own (rowCells (rightOf t.b i).1) _ _, .own (rowCells (rightOf t.a i).1) _ _, _, _] at S
   replace S := S.sub (.cons _ (.cons _ (.cons_cons _ (List.nil_sublist _))))
   have H := jd S.first
   have C := jd c
   clear S c h ha hb
   go_wp2
   go_ret
   exact ⟨_, _, _, rfl, by rw [HR.out]; exact H.out, C.out⟩
  have HR := jd (show rightAt t i = [] ++ [(rightOf t.b i).1] by simp [rightAt, h1, h2, hok, hh])
  have H2 := jd (show (unsummed (readAt t.b i).1).2 = true from h2)
  clear hok hh h1 h2
  have S := Sep.nil w w.heap.size
  have c := Below.refl w.heap.size w
  replace S := S.boxAt c.size (w.heap.size) rfl #[.slice Aa0 na0 ca0, .slice Aa1 na1 ca1, .slice Aa2 na2 ca2, .slice Aa3 na3 ca3] 35
  replace c := al c S
  obtain ⟨fp_o, S'⟩ := S.has ((Below.refl _ _).alloc (Nat.le_refl _) (.cells #[] 39)) (own_lit_rows (p := w.heap.size + 1) (by simp)) c.size
  replace c := c.alloc c.size (.cells #[] 39)
  clear S; have S := S'; clear S'
  go_enter Tryz.func72, Tryz.ntmps72
  have f0 := lk S 1 0 rfl rfl
  have f1 := lk S 1 1 rfl rfl
  have f2 := lk S 1 2 rfl rfl
  have f3 := lk S 1 3 rfl rfl
  go_wp2_with fail
  generalize (w.alloc (.cells #[.slice Aa0 na0 ca0, .slice Aa1 na1 ca1, .slice Aa2 na2 ca2, .slice Aa3 na3 ca3] 35)).alloc (.cells #[] 39) = w1 at *
  refine (sTwoOk_any _ _ _ _ _ _ _ _ _ _ _ _ t _ _ (h.keep c) c.size (by omega)).mono ?_
  rintro e w2 ⟨rfl, b⟩
  replace c := c.trans (b.mono c.size)
  replace S := S.keep b
  clear b f0 f1 f2 f3
  rw [HT.out]
  have f4 := lk S 1 0 rfl rfl
  have f5 := lk S 1 1 rfl rfl
  go_wp2_with fail
  refine (sHas_any _ _ _ _ _ _ t.a i _ (rdKeptLen ha) hn0).mono ?_
  rintro e w3 ⟨rfl, b⟩
  replace c := c.trans (b.mono c.size)
  replace S := S.keep b
  clear b f4 f5
  rw [HH.out]
  have f6 := lk S 1 0 rfl rfl
  have f7 := lk S 1 1 rfl rfl
  go_wp2_with fail
  refine (sReadAt_any _ _ t.a i _ ((ha.keep c).up c.size) (by omega)).mono ?_
  rintro e w4 ⟨Ax0, nx0, cx0, rfl, o, b⟩
  obtain ⟨fp_x, S'⟩ := S.has b o c.size
  replace c := c.trans (b.mono c.size)
  clear S; have S := S'; clear S' o b f6 f7
  have f8 := lk S 2 2 rfl rfl
  have f9 := lk S 2 3 rfl rfl
  go_wp2_with fail
  refine (sReadAt_any _ _ t.b i _ ((hb.keep c).up c.size) (by omega)).mono ?_
  rintro e w5 ⟨Ay0, ny0, cy0, rfl, o, b⟩
  obtain ⟨fp_y, S'⟩ := S.has b o c.size
  replace c := c.trans (b.mono c.size)
  clear S; have S := S'; clear S' o b f8 f9
  go_wp2_with fail
  refine (sUnsD _ _ _ _ _ ((S.own_ 1 rfl).rd) (readAt_sz _ _ hsa)).mono ?_
  rintro e w6 ⟨Ap0, np0, cp0, rfl, o, b⟩
  obtain ⟨fp_p, S'⟩ := S.has b o c.size
  replace c := c.trans (b.mono c.size)
  clear S; have S := S'; clear S' o b
  rw [H1.out]
  go_wp2_with fail
  refine (sUnsD _ _ _ _ _ ((S.own_ 1 rfl).rd) (readAt_sz _ _ hsb)).mono ?_
  rintro e w7 ⟨Aq0, nq0, cq0, rfl, o, b⟩
  obtain ⟨fp_q, S'⟩ := S.has b o c.size
  replace c := c.trans (b.mono c.size)
  clear S; have S := S'; clear S' o b
  rw [H2.out]
  replace S := S.sub (.cons_cons _ (.cons_cons _ (.cons _ (.cons _ (.cons_cons _ (.cons_cons _ (List.nil_sublist _)))))))
  change Sep _ _ [.own (rowCells (rightOf t.b i).1) _ _, .own (rowCells (rightOf t.a i).1) _ _, _, _] at S
  replace S := S.boxAt c.size (w7.heap.size) rfl #[.slice Aq0 nq0 cq0] 39
  replace c := al c S
  have HC : ∀ i, i < 1 → (w7.alloc (.cells #[.slice Aq0 nq0 cq0] 39)).cell? ⟨w7.heap.size, i, none⟩ = [Value.slice Aq0 nq0 cq0][i]? := fun i hi => by
   have h1 := (S.at_ 0 rfl).cell i
   have : i = 0 := by omega
   subst this
   exact h1
  replace S := S.pick 1 rfl
  replace S := S.pick 3 rfl
  go_wp2_with (first
   | (at_builtin
      refine wpList_append_elem (l := []) (y := (rightOf t.b i).1) rfl (.tmp 65) (.tmp 67) (by rfl) Tryz.underlying30 infoRow (by rfl) (by decide) rowC_len (by rfl) (S.own_ 0 rfl) (S.nodup_own 0 rfl) (by rfl) HC (S.own_ 1 rfl) (S.nodup_own 1 rfl) S.apart (by omega) (by omega) ?_
      intro Al0 cl0 w8 fp_l o3 n3 s3 t3))
  have S' := S.merge t3 o3 n3 s3 c.size
  replace c := c.trans (S.below 0 rfl t3 c.size)
  clear S; have S := S'; clear S' o3 n3 s3 t3 HC
  replace S := S.sub (.cons_cons _ (List.nil_sublist _))
  have H := jd S.first
  have C := jd c
  clear S c h ha hb
  go_ret
  exact ⟨_, _, _, rfl, by rw [HR.out]; exact H.out, C.out⟩
 have H1 := jd (show (unsummed (readAt t.a i).1).2 = true from h1)
 cases h2 : (rightOf t.b i).2
 case false =>
  have HR := jd (show rightAt t i = [] ++ [(rightOf t.a i).1] by simp [rightAt, h1, h2, hok, hh])
  have H2 := jd (show (unsummed (readAt t.b i).1).2 = false from h2)
  clear hok hh h1 h2
  have S := Sep.nil w w.heap.size
  have c := Below.refl w.heap.size w
  replace S := S.boxAt c.size (w.heap.size) rfl #[.slice Aa0 na0 ca0, .slice Aa1 na1 ca1, .slice Aa2 na2 ca2, .slice Aa3 na3 ca3] 35
  replace c := al c S
  obtain ⟨fp_o, S'⟩ := S.has ((Below.refl _ _).alloc (Nat.le_refl _) (.cells #[] 39)) (own_lit_rows (p := w.heap.size + 1) (by simp)) c.size
  replace c := c.alloc c.size (.cells #[] 39)
  clear S; have S := S'; clear S'
  go_enter Tryz.func72, Tryz.ntmps72
  have f0 := lk S 1 0 rfl rfl
  have f1 := lk S 1 1 rfl rfl
  have f2 := lk S 1 2 rfl rfl
  have f3 := lk S 1 3 rfl rfl
  go_wp2_with fail
  generalize (w.alloc (.cells #[.slice Aa0 na0 ca0, .slice Aa1 na1 ca1, .slice Aa2 na2 ca2, .slice Aa3 na3 ca3] 35)).alloc (.cells #[] 39) = w1 at *
  refine (sTwoOk_any _ _ _ _ _ _ _ _ _ _ _ _ t _ _ (h.keep c) c.size (by omega)).mono ?_
  rintro e w2 ⟨rfl, b⟩
  replace c := c.trans (b.mono c.size)
  replace S := S.keep b
  clear b f0 f1 f2 f3
  rw [HT.out]
  have f4 := lk S 1 0 rfl rfl
  have f5 := lk S 1 1 rfl rfl
  go_wp2_with fail
  refine (sHas_any _ _ _ _ _ _ t.a i _ (rdKeptLen ha) hn0).mono ?_
  rintro e w3 ⟨rfl, b⟩
  replace c := c.trans (b.mono c.size)
  replace S := S.keep b
  clear b f4 f5
  rw [HH.out]
  have f6 := lk S 1 0 rfl rfl
  have f7 := lk S 1 1 rfl rfl
  go_wp2_with fail
  refine (sReadAt_any _ _ t.a i _ ((ha.keep c).up c.size) (by omega)).mono ?_
  rintro e w4 ⟨Ax0, nx0, cx0, rfl, o, b⟩
  obtain ⟨fp_x, S'⟩ := S.has b o c.size
  replace c := c.trans (b.mono c.size)
  clear S; have S := S'; clear S' o b f6 f7
  have f8 := lk S 2 2 rfl rfl
  have f9 := lk S 2 3 rfl rfl
  go_wp2_with fail
  refine (sReadAt_any _ _ t.b i _ ((hb.keep c).up c.size) (by omega)).mono ?_
  rintro e w5 ⟨Ay0, ny0, cy0, rfl, o, b⟩
  obtain ⟨fp_y, S'⟩ := S.has b o c.size
  replace c := c.trans (b.mono c.size)
  clear S; have S := S'; clear S' o b f8 f9
  go_wp2_with fail
  refine (sUnsD _ _ _ _ _ ((S.own_ 1 rfl).rd) (readAt_sz _ _ hsa)).mono ?_
  rintro e w6 ⟨Ap0, np0, cp0, rfl, o, b⟩
  obtain ⟨fp_p, S'⟩ := S.has b o c.size
  replace c := c.trans (b.mono c.size)
  clear S; have S := S'; clear S' o b
  rw [H1.out]
  go_wp2_with fail
  refine (sUnsD _ _ _ _ _ ((S.own_ 1 rfl).rd) (readAt_sz _ _ hsb)).mono ?_
  rintro e w7 ⟨Aq0, nq0, cq0, rfl, o, b⟩
  obtain ⟨fp_q, S'⟩ := S.has b o c.size
  replace c := c.trans (b.mono c.size)
  clear S; have S := S'; clear S' o b
  rw [H2.out]
  replace S := S.sub (.cons_cons _ (.cons_cons _ (.cons _ (.cons _ (.cons_cons _ (.cons_cons _ (List.nil_sublist _)))))))
  change Sep _ _ [.own (rowCells (rightOf t.b i).1) _ _, .own (rowCells (rightOf t.a i).1) _ _, _, _] at S
  replace S := S.boxAt c.size (w7.heap.size) rfl #[.slice Ap0 np0 cp0] 39
  replace c := al c S
  have HC : ∀ i, i < 1 → (w7.alloc (.cells #[.slice Ap0 np0 cp0] 39)).cell? ⟨w7.heap.size, i, none⟩ = [Value.slice Ap0 np0 cp0][i]? := fun i hi => by
   have h1 := (S.at_ 0 rfl).cell i
   have : i = 0 := by omega
   subst this
   exact h1
  replace S := S.pick 2 rfl
  replace S := S.pick 3 rfl
  go_wp2_with (first
   | (at_builtin
      refine wpList_append_elem (l := []) (y := (rightOf t.a i).1) rfl (.tmp 51) (.tmp 53) (by rfl) Tryz.underlying30 infoRow (by rfl) (by decide) rowC_len (by rfl) (S.own_ 0 rfl) (S.nodup_own 0 rfl) (by rfl) HC (S.own_ 1 rfl) (S.nodup_own 1 rfl) S.apart (by omega) (by omega) ?_
      intro Al0 cl0 w8 fp_l o3 n3 s3 t3))
  have S' := S.merge t3 o3 n3 s3 c.size
  replace c := c.trans (S.below 0 rfl t3 c.size)
  clear S; have S := S'; clear S' o3 n3 s3 t3 HC
  replace S := S.sub (.cons_cons _ (List.nil_sublist _))
  have H := jd S.first
  have C := jd c
  clear S c h ha hb
  go_ret
  exact ⟨_, _, _, rfl, by rw [HR.out]; exact H.out, C.out⟩
 have H2 := jd (show (unsummed (readAt t.b i).1).2 = true from h2)
 have hp1 : (rightOf t.a i).1.length ≤ 1048577 := Nat.le_trans (unsummed_len _) (by omega)
 have hq1 : (rightOf t.b i).1.length ≤ 1048577 := Nat.le_trans (unsummed_len _) (by omega)
 cases hsm : sameI (rightOf t.a i).1 (rightOf t.b i).1
 case true =>
  have HS := jd hsm
  have HR := jd (show rightAt t i = [] ++ [(rightOf t.a i).1] by
   have e : (rightOf t.a i).1 = (rightOf t.b i).1 := by simpa [sameI] using hsm
   simp [rightAt, h1, h2, hok, hh, e])
  clear hok hh h1 h2 hsm
  have S := Sep.nil w w.heap.size
  have c := Below.refl w.heap.size w
  replace S := S.boxAt c.size (w.heap.size) rfl #[.slice Aa0 na0 ca0, .slice Aa1 na1 ca1, .slice Aa2 na2 ca2, .slice Aa3 na3 ca3] 35
  replace c := al c S
  obtain ⟨fp_o, S'⟩ := S.has ((Below.refl _ _).alloc (Nat.le_refl _) (.cells #[] 39)) (own_lit_rows (p := w.heap.size + 1) (by simp)) c.size
  replace c := c.alloc c.size (.cells #[] 39)
  clear S; have S := S'; clear S'
  go_enter Tryz.func72, Tryz.ntmps72
  have f0 := lk S 1 0 rfl rfl
  have f1 := lk S 1 1 rfl rfl
  have f2 := lk S 1 2 rfl rfl
  have f3 := lk S 1 3 rfl rfl
  go_wp2_with fail
  generalize (w.alloc (.cells #[.slice Aa0 na0 ca0, .slice Aa1 na1 ca1, .slice Aa2 na2 ca2, .slice Aa3 na3 ca3] 35)).alloc (.cells #[] 39) = w1 at *
  refine (sTwoOk_any _ _ _ _ _ _ _ _ _ _ _ _ t _ _ (h.keep c) c.size (by omega)).mono ?_
  rintro e w2 ⟨rfl, b⟩
  replace c := c.trans (b.mono c.size)
  replace S := S.keep b
  clear b f0 f1 f2 f3
  rw [HT.out]
  have f4 := lk S 1 0 rfl rfl
  have f5 := lk S 1 1 rfl rfl
  go_wp2_with fail
  refine (sHas_any _ _ _ _ _ _ t.a i _ (rdKeptLen ha) hn0).mono ?_
  rintro e w3 ⟨rfl, b⟩
  replace c := c.trans (b.mono c.size)
  replace S := S.keep b
  clear b f4 f5
  rw [HH.out]
  have f6 := lk S 1 0 rfl rfl
  have f7 := lk S 1 1 rfl rfl
  go_wp2_with fail
  refine (sReadAt_any _ _ t.a i _ ((ha.keep c).up c.size) (by omega)).mono ?_
  rintro e w4 ⟨Ax0, nx0, cx0, rfl, o, b⟩
  obtain ⟨fp_x, S'⟩ := S.has b o c.size
  replace c := c.trans (b.mono c.size)
  clear S; have S := S'; clear S' o b f6 f7
  have f8 := lk S 2 2 rfl rfl
  have f9 := lk S 2 3 rfl rfl
  go_wp2_with fail
  refine (sReadAt_any _ _ t.b i _ ((hb.keep c).up c.size) (by omega)).mono ?_
  rintro e w5 ⟨Ay0, ny0, cy0, rfl, o, b⟩
  obtain ⟨fp_y, S'⟩ := S.has b o c.size
  replace c := c.trans (b.mono c.size)
  clear S; have S := S'; clear S' o b f8 f9
  go_wp2_with fail
  refine (sUnsD _ _ _ _ _ ((S.own_ 1 rfl).rd) (readAt_sz _ _ hsa)).mono ?_
  rintro e w6 ⟨Ap0, np0, cp0, rfl, o, b⟩
  obtain ⟨fp_p, S'⟩ := S.has b o c.size
  replace c := c.trans (b.mono c.size)
  clear S; have S := S'; clear S' o b
  rw [H1.out]
  go_wp2_with fail
  refine (sUnsD _ _ _ _ _ ((S.own_ 1 rfl).rd) (readAt_sz _ _ hsb)).mono ?_
  rintro e w7 ⟨Aq0, nq0, cq0, rfl, o, b⟩
  obtain ⟨fp_q, S'⟩ := S.has b o c.size
  replace c := c.trans (b.mono c.size)
  clear S; have S := S'; clear S' o b
  rw [H2.out]
  replace S := S.sub (.cons_cons _ (.cons_cons _ (.cons _ (.cons _ (.cons_cons _ (.cons_cons _ (List.nil_sublist _)))))))
  change Sep _ _ [.own (rowCells (rightOf t.b i).1) _ _, .own (rowCells (rightOf t.a i).1) _ _, _, _] at S
  replace S := S.boxAt c.size (w7.heap.size) rfl #[.slice Ap0 np0 cp0] 39
  replace c := al c S
  have HC : ∀ i, i < 1 → (w7.alloc (.cells #[.slice Ap0 np0 cp0] 39)).cell? ⟨w7.heap.size, i, none⟩ = [Value.slice Ap0 np0 cp0][i]? := fun i hi => by
   have h1 := (S.at_ 0 rfl).cell i
   have : i = 0 := by omega
   subst this
   exact h1
  replace S := S.pick 2 rfl
  replace S := S.pick 3 rfl
  go_wp2_with (first
   | (at_builtin
      refine wpList_append_elem (l := []) (y := (rightOf t.a i).1) rfl (.tmp 51) (.tmp 53) (by rfl) Tryz.underlying30 infoRow (by rfl) (by decide) rowC_len (by rfl) (S.own_ 0 rfl) (S.nodup_own 0 rfl) (by rfl) HC (S.own_ 1 rfl) (S.nodup_own 1 rfl) S.apart (by omega) (by omega) ?_
      intro Al0 cl0 w8 fp_l o3 n3 s3 t3))
  have OP := ((S.own_ 1 rfl).touch t3 S.apart).rd
  have S' := S.merge t3 o3 n3 s3 c.size
  replace c := c.trans (S.below 0 rfl t3 c.size)
  clear S; have S := S'; clear S' o3 n3 s3 t3 HC
  refine (sSameD _ _ _ _ _ _ _ _ _ _ _ OP ((S.own_ 2 rfl).rd) hp1 hq1).mono ?_
  rintro e w9 ⟨rfl, b⟩
  replace c := c.trans (b.mono c.size)
  replace S := S.keep b
  clear b
  rw [HS.out]
  clear OP
  replace S := S.sub (.cons_cons _ (List.nil_sublist _))
  have H := jd S.first
  have C := jd c
  clear S c h ha hb
  go_wp2
  go_ret
  exact ⟨_, _, _, rfl, by rw [HR.out]; exact H.out, C.out⟩
 have HS := jd hsm
 have HR := jd (show rightAt t i = [] ++ [(rightOf t.a i).1] ++ [(rightOf t.b i).1] by
  have e : ¬ ((rightOf t.a i).1 = (rightOf t.b i).1) := by simpa [sameI] using hsm
  simp [rightAt, h1, h2, hok, hh, e])
 clear hok hh h1 h2 hsm
 have S := Sep.nil w w.heap.size
 have c := Below.refl w.heap.size w
 replace S := S.boxAt c.size (w.heap.size) rfl #[.slice Aa0 na0 ca0, .slice Aa1 na1 ca1, .slice Aa2 na2 ca2, .slice Aa3 na3 ca3] 35
 replace c := al c S
 obtain ⟨fp_o, S'⟩ := S.has ((Below.refl _ _).alloc (Nat.le_refl _) (.cells #[] 39)) (own_lit_rows (p := w.heap.size + 1) (by simp)) c.size
 replace c := c.alloc c.size (.cells #[] 39)
 clear S; have S := S'; clear S'
 go_enter Tryz.func72, Tryz.ntmps72
 have f0 := lk S 1 0 rfl rfl
 have f1 := lk S 1 1 rfl rfl
 have f2 := lk S 1 2 rfl rfl
 have f3 := lk S 1 3 rfl rfl
 go_wp2_with fail
 generalize (w.alloc (.cells #[.slice Aa0 na0 ca0, .slice Aa1 na1 ca1, .slice Aa2 na2 ca2, .slice Aa3 na3 ca3] 35)).alloc (.cells #[] 39) = w1 at *
 refine (sTwoOk_any _ _ _ _ _ _ _ _ _ _ _ _ t _ _ (h.keep c) c.size (by omega)).mono ?_
 rintro e w2 ⟨rfl, b⟩
 replace c := c.trans (b.mono c.size)
 replace S := S.keep b
 clear b f0 f1 f2 f3
 rw [HT.out]
 have f4 := lk S 1 0 rfl rfl
 have f5 := lk S 1 1 rfl rfl
 go_wp2_with fail
 refine (sHas_any _ _ _ _ _ _ t.a i _ (rdKeptLen ha) hn0).mono ?_
 rintro e w3 ⟨rfl, b⟩
 replace c := c.trans (b.mono c.size)
 replace S := S.keep b
 clear b f4 f5
 rw [HH.out]
 have f6 := lk S 1 0 rfl rfl
 have f7 := lk S 1 1 rfl rfl
 go_wp2_with fail
 refine (sReadAt_any _ _ t.a i _ ((ha.keep c).up c.size) (by omega)).mono ?_
 rintro e w4 ⟨Ax0, nx0, cx0, rfl, o, b⟩
 obtain ⟨fp_x, S'⟩ := S.has b o c.size
 replace c := c.trans (b.mono c.size)
 clear S; have S := S'; clear S' o b f6 f7
 have f8 := lk S 2 2 rfl rfl
 have f9 := lk S 2 3 rfl rfl
 go_wp2_with fail
 refine (sReadAt_any _ _ t.b i _ ((hb.keep c).up c.size) (by omega)).mono ?_
 rintro e w5 ⟨Ay0, ny0, cy0, rfl, o, b⟩
 obtain ⟨fp_y, S'⟩ := S.has b o c.size
 replace c := c.trans (b.mono c.size)
 clear S; have S := S'; clear S' o b f8 f9
 go_wp2_with fail
 refine (sUnsD _ _ _ _ _ ((S.own_ 1 rfl).rd) (readAt_sz _ _ hsa)).mono ?_
 rintro e w6 ⟨Ap0, np0, cp0, rfl, o, b⟩
 obtain ⟨fp_p, S'⟩ := S.has b o c.size
 replace c := c.trans (b.mono c.size)
 clear S; have S := S'; clear S' o b
 rw [H1.out]
 go_wp2_with fail
 refine (sUnsD _ _ _ _ _ ((S.own_ 1 rfl).rd) (readAt_sz _ _ hsb)).mono ?_
 rintro e w7 ⟨Aq0, nq0, cq0, rfl, o, b⟩
 obtain ⟨fp_q, S'⟩ := S.has b o c.size
 replace c := c.trans (b.mono c.size)
 clear S; have S := S'; clear S' o b
 rw [H2.out]
 replace S := S.sub (.cons_cons _ (.cons_cons _ (.cons _ (.cons _ (.cons_cons _ (.cons_cons _ (List.nil_sublist _)))))))
 change Sep _ _ [.own (rowCells (rightOf t.b i).1) _ _, .own (rowCells (rightOf t.a i).1) _ _, _, _] at S
 replace S := S.boxAt c.size (w7.heap.size) rfl #[.slice Ap0 np0 cp0] 39
 replace c := al c S
 have HC : ∀ i, i < 1 → (w7.alloc (.cells #[.slice Ap0 np0 cp0] 39)).cell? ⟨w7.heap.size, i, none⟩ = [Value.slice Ap0 np0 cp0][i]? := fun i hi => by
  have h1 := (S.at_ 0 rfl).cell i
  have : i = 0 := by omega
  subst this
  exact h1
 replace S := S.pick 2 rfl
 replace S := S.pick 3 rfl
 go_wp2_with (first
  | (at_builtin
     refine wpList_append_elem (l := []) (y := (rightOf t.a i).1) rfl (.tmp 51) (.tmp 53) (by rfl) Tryz.underlying30 infoRow (by rfl) (by decide) rowC_len (by rfl) (S.own_ 0 rfl) (S.nodup_own 0 rfl) (by rfl) HC (S.own_ 1 rfl) (S.nodup_own 1 rfl) S.apart (by omega) (by omega) ?_
     intro Al0 cl0 w8 fp_l o3 n3 s3 t3))
 have OP := ((S.own_ 1 rfl).touch t3 S.apart).rd
 have S' := S.merge t3 o3 n3 s3 c.size
 replace c := c.trans (S.below 0 rfl t3 c.size)
 clear S; have S := S'; clear S' o3 n3 s3 t3 HC
 refine (sSameD _ _ _ _ _ _ _ _ _ _ _ OP ((S.own_ 2 rfl).rd) hp1 hq1).mono ?_
 rintro e w9 ⟨rfl, b⟩
 replace c := c.trans (b.mono c.size)
 replace S := S.keep b
 clear b
 rw [HS.out]
 clear OP
 replace S := S.boxAt c.size (w9.heap.size) rfl #[.slice Aq0 nq0 cq0] 39
 replace c := al c S
 have HC : ∀ i, i < 1 → (w9.alloc (.cells #[.slice Aq0 nq0 cq0] 39)).cell? ⟨w9.heap.size, i, none⟩ = [Value.slice Aq0 nq0 cq0][i]? := fun i hi => by
  have h1 := (S.at_ 0 rfl).cell i
  have : i = 0 := by omega
  subst this
  exact h1
 replace S := S.pick 3 rfl
 replace S := S.pick 2 rfl
 go_wp2_with (first
  | (at_builtin
     refine wpList_append_elem (l := [] ++ [(rightOf t.a i).1]) (y := (rightOf t.b i).1) rfl (.tmp 65) (.tmp 67) (by rfl) Tryz.underlying30 infoRow (by rfl) (by decide) rowC_len (by rfl) (S.own_ 0 rfl) (S.nodup_own 0 rfl) (by rfl) HC (S.own_ 1 rfl) (S.nodup_own 1 rfl) S.apart (by omega) (by omega) ?_
     intro Am0 cm0 w10 fp_m o3 n3 s3 t3))
 have S' := S.merge t3 o3 n3 s3 c.size
 replace c := c.trans (S.below 0 rfl t3 c.size)
 clear S; have S := S'; clear S' o3 n3 s3 t3 HC
 replace S := S.sub (.cons_cons _ (List.nil_sublist _))
 have H := jd S.first
 have C := jd c
 clear S c h ha hb
 go_ret
 exact ⟨_, _, _, rfl, by rw [HR.out]; exact H.out, C.out⟩
theorem rightAt_len (t : TwoM) (i : Int) : (rightAt t i).length ≤ 2 := by
 unfold rightAt
 split
 · rw [List.length_append]
   have h1 : (if (rightOf t.a i).2 = true then [(rightOf t.a i).1] else []).length ≤ 1 := by split <;> simp
   have h2 : (if (rightOf t.b i).2 = true ∧ ¬ ((rightOf t.a i).2 = true ∧ (rightOf t.a i).1 = (rightOf t.b i).1) then [(rightOf t.b i).1] else []).length ≤ 1 := by split <;> simp
   omega
 · simp
theorem Has.headT {w : World} {base : Nat} {t : HeadM} {v0 v1 v2 v3 : Value} (h : Has w base t.cells [v0, v1, v2, v3]) : v0 = .int .i64 t.num ∧ v1 = .int .i64 t.base ∧ v2 = .int .i64 t.tm ∧ Has w base [mrkD t.seen] [v3] := by
 obtain ⟨fp, o, nd, ge⟩ := h
 obtain ⟨_, _, _, e0, e1, e2, _, _⟩ := o.rd.headT
 obtain ⟨f3, rfl, o3⟩ := Ow.headT o
 rw [List.append_nil] at nd ge
 exact ⟨e0, e1, e2, f3, o3, nd, ge⟩
def book0 : BookM := ⟨0, 0, []⟩
def headB (b : BookM) : Bool := decide (b.ents.length = 0) || (decide ((b.ents.getD 0 ent0).idx = b.base + 1) && decide (b.tm ≤ (b.ents.getD 0 ent0).tm))
def bookB (b : BookM) : Bool := inB b.base 0 2000 && (inB b.tm 0 1000000 && ((decide (b.base ≠ 0) || decide (b.tm = 0)) && (decide (b.ents.length ≤ 20) && (entsB b.ents && headB b))))
def lastB (b : BookM) : Int := b.base + (b.ents.length : Int)
def lastM (b : BookM) : Int := if bookB b = true then lastB b else 0
def timeAt (b : BookM) (i : Int) : Int := if i = b.base then b.tm else (b.ents.getD (i - b.base - 1).toNat ent0).tm
def nextB (b : BookM) (e : EntM) : Bool := entB e && (decide (e.idx = lastB b + 1) && (decide (timeAt b (lastB b) ≤ e.tm) && decide (b.ents.length ≠ 20)))
def more (b : BookM) (l : List EntM) : BookM := ⟨b.base, b.tm, b.ents ++ l⟩
def appM (b : BookM) (e : EntM) : BookM × Bool := if bookB b = true then (if nextB b e = true then (more b [e], true) else (b, false)) else (book0, false)
def growAt (b : BookM) (l : List EntM) (j : Nat) : Bool := nextB (more b (l.take j)) (l.getD j ent0)
def growB (b : BookM) (l : List EntM) : Bool := (List.range l.length).all (growAt b l)
def growM (b : BookM) (l : List EntM) : BookM × Bool := if bookB b = true then (if l.length ≤ 20 then (if growB b l = true then (more b l, true) else (b, false)) else (b, false)) else (book0, false)
theorem bookB_iff (b : BookM) : bookB b = true ↔ (0 ≤ b.base ∧ b.base ≤ 2000) ∧ (0 ≤ b.tm ∧ b.tm ≤ 1000000) ∧ (b.base ≠ 0 ∨ b.tm = 0) ∧ b.ents.length ≤ 20 ∧ entsB b.ents = true ∧ headB b = true := by
 unfold bookB
 simp only [Bool.and_eq_true, Bool.or_eq_true, inB_iff, decide_eq_true_eq]
theorem bookB_len {b : BookM} (h : bookB b = true) : b.ents.length ≤ 20 := ((bookB_iff b).1 h).2.2.2.1
theorem book_sz (b : BookM) : b.sz = b.ents.length := rfl
theorem timeAt_base (b : BookM) : timeAt b b.base = b.tm := if_pos rfl
theorem timeAt_in {b : BookM} {j : Nat} (hj : j < b.ents.length) : timeAt b (b.base + 1 + (j : Int)) = b.ents[j].tm := by
 unfold timeAt
 rw [if_neg (by omega), show (b.base + 1 + (j : Int) - b.base - 1).toNat = j by omega, egetD hj]
theorem growB_iff (b : BookM) (l : List EntM) : growB b l = true ↔ ∀ j, j < l.length → growAt b l j = true := by
 unfold growB
 simp only [List.all_eq_true, List.mem_range]
theorem growB_step {b : BookM} {l : List EntM} {j : Nat} (hj : j < l.length) (h : growAt b l j = false) : growB b l = false := by
 rw [Bool.eq_false_iff]
 intro h2
 have := (growB_iff b l).1 h2 j hj
 rw [h] at this
 cases this
theorem more_nil (b : BookM) : more b [] = b := by
 unfold more
 rw [List.append_nil]
theorem more_more (b : BookM) (l r : List EntM) : more (more b l) r = more b (l ++ r) := by
 unfold more
 rw [List.append_assoc]
theorem more_take {b : BookM} {l : List EntM} {j : Nat} (hj : j < l.length) : more (more b (l.take j)) [l[j]] = more b (l.take (j + 1)) := by
 rw [more_more, List.take_succ_eq_append_getElem hj]
theorem getD_left {l r : List EntM} {j : Nat} (h : j < l.length) : (l ++ r).getD j ent0 = l.getD j ent0 := by
 rw [List.getD_eq_getElem?_getD, List.getElem?_append_left h, ← List.getD_eq_getElem?_getD]
theorem getD_last (l : List EntM) (e : EntM) : (l ++ [e]).getD l.length ent0 = e := by
 rw [List.getD_eq_getElem?_getD, List.getElem?_append_right (Nat.le_refl _), Nat.sub_self]
 rfl
theorem entsB_all {l : List EntM} (h : entsB l = true) {j : Nat} (hj : j < l.length) : entB l[j] = true ∧ nextAt l j = true := by
 have h1 := ((entsB_iff l).1 h).2 j hj
 rw [entsAt_eq hj, Bool.and_eq_true] at h1
 exact h1
theorem entsB_snoc {l : List EntM} {e : EntM} (h : entsB l = true) (hl : l.length < 2000) (he : entB e = true) (hn : l.length = 0 ∨ (e.idx = (l.getD (l.length - 1) ent0).idx + 1 ∧ (l.getD (l.length - 1) ent0).tm ≤ e.tm)) : entsB (l ++ [e]) = true := by
 rw [entsB_iff]
 refine ⟨by rw [List.length_append, List.length_singleton]; omega, fun j hj => ?_⟩
 rw [List.length_append, List.length_singleton] at hj
 by_cases h1 : j < l.length
 · have h2 := ((entsB_iff l).1 h).2 j h1
   unfold entsAt nextAt at h2 ⊢
   rw [getD_left h1, getD_left (show j - 1 < l.length by omega)]
   exact h2
 · obtain rfl : j = l.length := by omega
   unfold entsAt nextAt
   rw [getD_last, he, Bool.true_and]
   rcases hn with h0 | ⟨h2, h3⟩
   · rw [decide_eq_true h0, Bool.true_or]
   · by_cases h0 : l.length = 0
     · rw [decide_eq_true h0, Bool.true_or]
     · rw [getD_left (show l.length - 1 < l.length by omega), decide_eq_true h2, decide_eq_true h3]
       simp
theorem book_idx {b : BookM} (h : bookB b = true) : ∀ j (hj : j < b.ents.length), b.ents[j].idx = b.base + 1 + (j : Int) := by
 obtain ⟨_, _, _, _, he, hh⟩ := (bookB_iff b).1 h
 intro j
 induction j with
 | zero =>
  intro hj
  unfold headB at hh
  rw [decide_eq_false (show ¬ b.ents.length = 0 by omega), Bool.false_or, Bool.and_eq_true, decide_eq_true_eq, egetD hj] at hh
  rw [hh.1]
  simp
 | succ k ih =>
  intro hj
  have h1 := (entsB_all he hj).2
  rw [nextAt_succ hj, Bool.and_eq_true, decide_eq_true_eq] at h1
  rw [h1.1, ih (by omega)]
  omega
theorem timeAt_last {b : BookM} (h0 : 0 < b.ents.length) : timeAt b (lastB b) = (b.ents.getD (b.ents.length - 1) ent0).tm := by
 have h1 : b.ents.length - 1 < b.ents.length := by omega
 rw [egetD h1, ← timeAt_in h1]
 congr 1
 unfold lastB
 omega
theorem timeAt_none {b : BookM} (h0 : b.ents.length = 0) : timeAt b (lastB b) = b.tm := by
 rw [show lastB b = b.base by unfold lastB; omega, timeAt_base]
theorem nextB_iff (b : BookM) (e : EntM) : nextB b e = true ↔ entB e = true ∧ e.idx = lastB b + 1 ∧ timeAt b (lastB b) ≤ e.tm ∧ b.ents.length ≠ 20 := by
 unfold nextB
 simp only [Bool.and_eq_true, decide_eq_true_eq]
theorem bookB_more {b : BookM} {e : EntM} (h : bookB b = true) (hn : nextB b e = true) : bookB (more b [e]) = true := by
 obtain ⟨h1, h2, h3, h4, h5, h6⟩ := (bookB_iff b).1 h
 obtain ⟨n1, n2, n3, n4⟩ := (nextB_iff b e).1 hn
 rw [bookB_iff]
 refine ⟨h1, h2, h3, by show (b.ents ++ [e]).length ≤ 20; rw [List.length_append, List.length_singleton]; omega, entsB_snoc h5 (by omega) n1 ?_, ?_⟩
 · by_cases h0 : b.ents.length = 0
   · exact .inl h0
   · refine .inr ⟨?_, ?_⟩
     · rw [egetD (show b.ents.length - 1 < b.ents.length by omega), book_idx h, n2]
       unfold lastB
       omega
     · rw [← timeAt_last (by omega)]
       exact n3
 · unfold headB
   show (decide ((b.ents ++ [e]).length = 0) || (decide (((b.ents ++ [e]).getD 0 ent0).idx = b.base + 1) && decide (b.tm ≤ ((b.ents ++ [e]).getD 0 ent0).tm))) = true
   by_cases h0 : b.ents.length = 0
   · have e1 : b.ents = [] := List.eq_nil_of_length_eq_zero h0
     rw [e1]
     have n5 := timeAt_none h0
     rw [n5] at n3
     have n6 : e.idx = b.base + 1 := by rw [n2]; unfold lastB; omega
     simp [n6, n3]
   · rw [getD_left (by omega)]
     unfold headB at h6
     rw [decide_eq_false h0, Bool.false_or] at h6
     rw [h6, Bool.or_true]
theorem grown_ok {b : BookM} {l : List EntM} (h : bookB b = true) : ∀ j, j ≤ l.length → (∀ q, q < j → growAt b l q = true) → bookB (more b (l.take j)) = true := by
 intro j
 induction j with
 | zero =>
  intro _ _
  rw [List.take_zero, more_nil]
  exact h
 | succ k ih =>
  intro hk hall
  have h1 := ih (by omega) fun q hq => hall q (by omega)
  have h2 := hall k (by omega)
  unfold growAt at h2
  rw [egetD (show k < l.length by omega)] at h2
  rw [← more_take (show k < l.length by omega)]
  exact bookB_more h1 h2
end Go.Proofs.YtmjifhjhialcbaaGreat
