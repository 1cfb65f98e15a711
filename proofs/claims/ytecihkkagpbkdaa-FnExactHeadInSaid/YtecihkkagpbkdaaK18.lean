/- Parts of my texts: TwoS2. -/
import Derived.Test.YtecihkkagpbkdaaK13
namespace Go.Proofs.Ytecihkkagpbkdaa
set_option maxRecDepth 100000
set_option linter.unusedVariables false
open Go.RowKit
theorem rowCells_len {w : World} {xs : List Int} {A : Option Addr} {n c : Nat} {fp : List Nat} (h : Ow w (rowCells xs) [.slice A n c] fp) : xs.length = n := by
 obtain ⟨_, _, _, e, o, _⟩ := Ow.own h
 injection e with e1 e2 e3
 subst e1 e2 e3
 exact o.len
theorem withSum_len (r : List Int) : (withSum r).length ≤ 48 := by
 unfold withSum
 split
 · simp; omega
 · simp
set_option maxHeartbeats 12800000 in
theorem sBothWrote_any (Aa0 : Option Addr) (na0 ca0 : Nat) (Aa1 : Option Addr) (na1 ca1 : Nat) (Aa2 : Option Addr) (na2 ca2 : Nat) (Aa3 : Option Addr) (na3 ca3 : Nat) (t : TwoM) (i : Int) (E : Option Addr) (o co : Nat) (r : List Int) (w : World) (h : Rd w w.heap.size t.cells [.slice Aa0 na0 ca0, .slice Aa1 na1 ca1, .slice Aa2 na2 ca2, .slice Aa3 na3 ca3]) (hs : t.sz ≤ 1048576) (h2 : Rd w w.heap.size (rowCells r) [.slice E o co]) (hs2 : r.length ≤ 1048576) :
    Calls Try.prog 45 #[.agg #[.slice Aa0 na0 ca0, .slice Aa1 na1 ca1, .slice Aa2 na2 ca2, .slice Aa3 na3 ca3], .int .i64 i, .slice E o co] w fun e w' => ∃ A0 n0 c0 A1 n1 c1 A2 n2 c2 A3 n3 c3, e = .returned (.tuple #[.agg #[.slice A0 n0 c0, .slice A1 n1 c1, .slice A2 n2 c2, .slice A3 n3 c3], .bool (bothWrote t i r).2]) ∧ Has w' w.heap.size (bothWrote t i r).1.cells [.slice A0 n0 c0, .slice A1 n1 c1, .slice A2 n2 c2, .slice A3 n3 c3] ∧ Below w.heap.size w w' := by
 obtain ⟨ha, hb⟩ := h.halves
 have hsa : t.a.sz ≤ 1048576 := by unfold TwoM.sz at hs; omega
 have hsb : t.b.sz ≤ 1048576 := by unfold TwoM.sz at hs; omega
 obtain ⟨_, _, _, e, hi, _⟩ := h2.irow
 injection e with e1 e2 e3
 subst e1 e2 e3
 have ho : o ≤ 1048577 := by rw [← hi.1]; omega
 obtain ⟨s, hw⟩ : ∃ s, withSum r = s := ⟨_, rfl⟩
 have hsz : s.length ≤ 1048576 := by have := withSum_len r; rw [hw] at this; omega
 cases hok : twoOk t
 case false =>
  have HR := jd (show bothWrote t i r = (zeroT, false) by simp [bothWrote, hok])
  have HT := jd hok
  clear hok hw
  have S := Sep.nil w w.heap.size
  have c := Below.refl w.heap.size w
  replace S := S.boxAt c.size (w.heap.size) rfl #[.slice Aa0 na0 ca0, .slice Aa1 na1 ca1, .slice Aa2 na2 ca2, .slice Aa3 na3 ca3] 34
  replace c := al c S
  replace S := S.boxAt c.size (w.heap.size + 1) (by simp) #[.slice none 0 0, .slice none 0 0, .slice none 0 0, .slice none 0 0] 34
  replace c := al c S
  go_enter Try.func45, Try.ntmps45
  have f0 := lk S 1 0 rfl rfl
  have f1 := lk S 1 1 rfl rfl
  have f2 := lk S 1 2 rfl rfl
  have f3 := lk S 1 3 rfl rfl
  go_wp2_with fail
  generalize (w.alloc (.cells #[.slice Aa0 na0 ca0, .slice Aa1 na1 ca1, .slice Aa2 na2 ca2, .slice Aa3 na3 ca3] 34)).alloc (.cells #[.slice none 0 0, .slice none 0 0, .slice none 0 0, .slice none 0 0] 34) = w1 at *
  refine (sTwoOk_any _ _ _ _ _ _ _ _ _ _ _ _ t _ _ (h.keep c) c.size (by omega)).mono ?_
  rintro e w2 ⟨rfl, b⟩
  replace c := c.trans (b.mono c.size)
  replace S := S.keep b
  clear b f0 f1 f2 f3
  rw [HT.out]
  have f4 := lk S 0 0 rfl rfl
  have f5 := (S.at_ 0 rfl).free 0
  have f6 := lk S 0 1 rfl rfl
  have f7 := (S.at_ 0 rfl).free 1
  have f8 := lk S 0 2 rfl rfl
  have f9 := (S.at_ 0 rfl).free 2
  have f10 := lk S 0 3 rfl rfl
  have f11 := (S.at_ 0 rfl).free 3
  replace S := S.put 0 rfl 0 (.slice none 0 0)
  replace c := st c S (by omega)
  replace S := S.put 0 rfl 1 (.slice none 0 0)
  replace c := st c S (by omega)
  replace S := S.put 0 rfl 2 (.slice none 0 0)
  replace c := st c S (by omega)
  replace S := S.put 0 rfl 3 (.slice none 0 0)
  replace c := st c S (by omega)
  have C := jd c
  clear S c h
  go_wp2
  exact bodyPost_ret (v := .tuple #[.agg #[.slice none 0 0, .slice none 0 0, .slice none 0 0, .slice none 0 0], .bool false]) (by simp [results, Try.results45, go_sem, f4, f6, f8, f10]) rfl ⟨_, _, _, _, _, _, _, _, _, _, _, _, by rw [HR.out], by rw [HR.out]; exact has_zeroT _ _, C.out⟩
 have HW := jd hw
 by_cases hl : s.length = 0
 case pos =>
  have HR := jd (show bothWrote t i r = (t, false) by simp [bothWrote, hok, hw, List.eq_nil_of_length_eq_zero hl])
  have HT := jd hok
  clear hok hw
  have S := Sep.nil w w.heap.size
  have c := Below.refl w.heap.size w
  replace S := S.boxAt c.size (w.heap.size) rfl #[.slice Aa0 na0 ca0, .slice Aa1 na1 ca1, .slice Aa2 na2 ca2, .slice Aa3 na3 ca3] 34
  replace c := al c S
  replace S := S.boxAt c.size (w.heap.size + 1) (by simp) #[.slice none 0 0, .slice none 0 0, .slice none 0 0, .slice none 0 0] 34
  replace c := al c S
  go_enter Try.func45, Try.ntmps45
  have f0 := lk S 1 0 rfl rfl
  have f1 := lk S 1 1 rfl rfl
  have f2 := lk S 1 2 rfl rfl
  have f3 := lk S 1 3 rfl rfl
  go_wp2_with fail
  generalize (w.alloc (.cells #[.slice Aa0 na0 ca0, .slice Aa1 na1 ca1, .slice Aa2 na2 ca2, .slice Aa3 na3 ca3] 34)).alloc (.cells #[.slice none 0 0, .slice none 0 0, .slice none 0 0, .slice none 0 0] 34) = w1 at *
  refine (sTwoOk_any _ _ _ _ _ _ _ _ _ _ _ _ t _ _ (h.keep c) c.size (by omega)).mono ?_
  rintro e w2 ⟨rfl, b⟩
  replace c := c.trans (b.mono c.size)
  replace S := S.keep b
  clear b f0 f1 f2 f3
  rw [HT.out]
  go_wp2_with fail
  refine (sWith_any _ _ _ r _ ((hi.below c).up c.size) ho).mono ?_
  rintro e w3 ⟨As0, ns0, cs0, rfl, o, b⟩
  obtain ⟨fp_s, S'⟩ := S.has b o.has c.size
  replace c := c.trans (b.mono c.size)
  clear S; have S := S'; clear S' o b
  have ls : (withSum r).length = ns0 := rowCells_len (S.own_ 0 rfl)
  rw [HW.out] at S ls
  have f4 := lk S 2 0 rfl rfl
  have f5 := lk S 2 1 rfl rfl
  go_wp2_with fail
  refine (sWrote_any _ _ _ _ _ _ t.a i _ _ _ s _ ((ha.keep c).up c.size) hsa ((S.own_ 0 rfl).rd) hsz).mono ?_
  rintro e w4 ⟨Au0, nu0, cu0, Au1, nu1, cu1, rfl, o, b⟩
  obtain ⟨fp_u, S'⟩ := S.has b o c.size
  replace c := c.trans (b.mono c.size)
  clear S; have S := S'; clear S' o b f4 f5
  replace S := S.boxAt c.size (w4.heap.size) rfl #[.slice Au0 nu0 cu0, .slice Au1 nu1 cu1] 32
  replace c := al c S
  have f6 := lk S 4 2 rfl rfl
  have f7 := lk S 4 3 rfl rfl
  go_wp2_with fail
  generalize w4.alloc (.cells #[.slice Au0 nu0 cu0, .slice Au1 nu1 cu1] 32) = w5 at *
  refine (sWrote_any _ _ _ _ _ _ t.b i _ _ _ s _ ((hb.keep c).up c.size) hsb ((S.own_ 2 rfl).rd) hsz).mono ?_
  rintro e w6 ⟨Av0, nv0, cv0, Av1, nv1, cv1, rfl, o, b⟩
  obtain ⟨fp_v, S'⟩ := S.has b o c.size
  replace c := c.trans (b.mono c.size)
  clear S; have S := S'; clear S' o b f6 f7
  replace S := S.boxAt c.size (w6.heap.size) rfl #[.slice Av0 nv0 cv0, .slice Av1 nv1 cv1] 32
  replace c := al c S
  have q0 : (ns0 : Int) = 0 := by omega
  have f8 := lk S 6 0 rfl rfl
  have f9 := lk S 6 1 rfl rfl
  have f10 := lk S 6 2 rfl rfl
  have f11 := lk S 6 3 rfl rfl
  go_wp2_with fail
  generalize w6.alloc (.cells #[.slice Av0 nv0 cv0, .slice Av1 nv1 cv1] 32) = w7 at *
  refine (sCopyT_any _ _ _ _ _ _ _ _ _ _ _ _ t _ ((h.keep c).up c.size) hs).mono ?_
  rintro e w8 ⟨Az0, nz0, cz0, Az1, nz1, cz1, Az2, nz2, cz2, Az3, nz3, cz3, rfl, o, b⟩
  obtain ⟨fp_z, S'⟩ := S.has b o c.size
  replace c := c.trans (b.mono c.size)
  clear S; have S := S'; clear S' o b f8 f9 f10 f11
  have f12 := lk S 6 0 rfl rfl
  have f13 := (S.at_ 6 rfl).free 0
  have f14 := lk S 6 1 rfl rfl
  have f15 := (S.at_ 6 rfl).free 1
  have f16 := lk S 6 2 rfl rfl
  have f17 := (S.at_ 6 rfl).free 2
  have f18 := lk S 6 3 rfl rfl
  have f19 := (S.at_ 6 rfl).free 3
  replace S := S.put 6 rfl 0 (.slice Az0 nz0 cz0)
  replace c := st c S (by omega)
  replace S := S.put 6 rfl 1 (.slice Az1 nz1 cz1)
  replace c := st c S (by omega)
  replace S := S.put 6 rfl 2 (.slice Az2 nz2 cz2)
  replace c := st c S (by omega)
  replace S := S.put 6 rfl 3 (.slice Az3 nz3 cz3)
  replace c := st c S (by omega)
  have H := jd S.first
  have C := jd c
  clear S c h ha hb ls
  go_wp2
  exact bodyPost_ret (v := .tuple #[.agg #[.slice Az0 nz0 cz0, .slice Az1 nz1 cz1, .slice Az2 nz2 cz2, .slice Az3 nz3 cz3], .bool false]) (by simp [results, Try.results45, go_sem, f12, f14, f16, f18]) rfl ⟨_, _, _, _, _, _, _, _, _, _, _, _, by rw [HR.out], by rw [HR.out]; exact H.out, C.out⟩
 cases h1 : (wrote t.a i s).2
 case false =>
  have HR := jd (show bothWrote t i r = (t, false) by simp [bothWrote, hok, hw, h1])
  have HT := jd hok
  have H1 := jd h1
  clear hok hw h1
  have S := Sep.nil w w.heap.size
  have c := Below.refl w.heap.size w
  replace S := S.boxAt c.size (w.heap.size) rfl #[.slice Aa0 na0 ca0, .slice Aa1 na1 ca1, .slice Aa2 na2 ca2, .slice Aa3 na3 ca3] 34
  replace c := al c S
  replace S := S.boxAt c.size (w.heap.size + 1) (by simp) #[.slice none 0 0, .slice none 0 0, .slice none 0 0, .slice none 0 0] 34
  replace c := al c S
  go_enter Try.func45, Try.ntmps45
  have f0 := lk S 1 0 rfl rfl
  have f1 := lk S 1 1 rfl rfl
  have f2 := lk S 1 2 rfl rfl
  have f3 := lk S 1 3 rfl rfl
  go_wp2_with fail
  generalize (w.alloc (.cells #[.slice Aa0 na0 ca0, .slice Aa1 na1 ca1, .slice Aa2 na2 ca2, .slice Aa3 na3 ca3] 34)).alloc (.cells #[.slice none 0 0, .slice none 0 0, .slice none 0 0, .slice none 0 0] 34) = w1 at *
  refine (sTwoOk_any _ _ _ _ _ _ _ _ _ _ _ _ t _ _ (h.keep c) c.size (by omega)).mono ?_
  rintro e w2 ⟨rfl, b⟩
  replace c := c.trans (b.mono c.size)
  replace S := S.keep b
  clear b f0 f1 f2 f3
  rw [HT.out]
  go_wp2_with fail
  refine (sWith_any _ _ _ r _ ((hi.below c).up c.size) ho).mono ?_
  rintro e w3 ⟨As0, ns0, cs0, rfl, o, b⟩
  obtain ⟨fp_s, S'⟩ := S.has b o.has c.size
  replace c := c.trans (b.mono c.size)
  clear S; have S := S'; clear S' o b
  have ls : (withSum r).length = ns0 := rowCells_len (S.own_ 0 rfl)
  rw [HW.out] at S ls
  have f4 := lk S 2 0 rfl rfl
  have f5 := lk S 2 1 rfl rfl
  go_wp2_with fail
  refine (sWrote_any _ _ _ _ _ _ t.a i _ _ _ s _ ((ha.keep c).up c.size) hsa ((S.own_ 0 rfl).rd) hsz).mono ?_
  rintro e w4 ⟨Au0, nu0, cu0, Au1, nu1, cu1, rfl, o, b⟩
  obtain ⟨fp_u, S'⟩ := S.has b o c.size
  replace c := c.trans (b.mono c.size)
  clear S; have S := S'; clear S' o b f4 f5
  rw [H1.out]
  replace S := S.boxAt c.size (w4.heap.size) rfl #[.slice Au0 nu0 cu0, .slice Au1 nu1 cu1] 32
  replace c := al c S
  have f6 := lk S 4 2 rfl rfl
  have f7 := lk S 4 3 rfl rfl
  go_wp2_with fail
  generalize w4.alloc (.cells #[.slice Au0 nu0 cu0, .slice Au1 nu1 cu1] 32) = w5 at *
  refine (sWrote_any _ _ _ _ _ _ t.b i _ _ _ s _ ((hb.keep c).up c.size) hsb ((S.own_ 2 rfl).rd) hsz).mono ?_
  rintro e w6 ⟨Av0, nv0, cv0, Av1, nv1, cv1, rfl, o, b⟩
  obtain ⟨fp_v, S'⟩ := S.has b o c.size
  replace c := c.trans (b.mono c.size)
  clear S; have S := S'; clear S' o b f6 f7
  replace S := S.boxAt c.size (w6.heap.size) rfl #[.slice Av0 nv0 cv0, .slice Av1 nv1 cv1] 32
  replace c := al c S
  have q0 : ¬ ((ns0 : Int) = 0) := by omega
  have f8 := lk S 6 0 rfl rfl
  have f9 := lk S 6 1 rfl rfl
  have f10 := lk S 6 2 rfl rfl
  have f11 := lk S 6 3 rfl rfl
  go_wp2_with fail
  generalize w6.alloc (.cells #[.slice Av0 nv0 cv0, .slice Av1 nv1 cv1] 32) = w7 at *
  refine (sCopyT_any _ _ _ _ _ _ _ _ _ _ _ _ t _ ((h.keep c).up c.size) hs).mono ?_
  rintro e w8 ⟨Az0, nz0, cz0, Az1, nz1, cz1, Az2, nz2, cz2, Az3, nz3, cz3, rfl, o, b⟩
  obtain ⟨fp_z, S'⟩ := S.has b o c.size
  replace c := c.trans (b.mono c.size)
  clear S; have S := S'; clear S' o b f8 f9 f10 f11
  have f12 := lk S 6 0 rfl rfl
  have f13 := (S.at_ 6 rfl).free 0
  have f14 := lk S 6 1 rfl rfl
  have f15 := (S.at_ 6 rfl).free 1
  have f16 := lk S 6 2 rfl rfl
  have f17 := (S.at_ 6 rfl).free 2
  have f18 := lk S 6 3 rfl rfl
  have f19 := (S.at_ 6 rfl).free 3
  replace S := S.put 6 rfl 0 (.slice Az0 nz0 cz0)
  replace c := st c S (by omega)
  replace S := S.put 6 rfl 1 (.slice Az1 nz1 cz1)
  replace c := st c S (by omega)
  replace S := S.put 6 rfl 2 (.slice Az2 nz2 cz2)
  replace c := st c S (by omega)
  replace S := S.put 6 rfl 3 (.slice Az3 nz3 cz3)
  replace c := st c S (by omega)
  have H := jd S.first
  have C := jd c
  clear S c h ha hb ls
  go_wp2
  exact bodyPost_ret (v := .tuple #[.agg #[.slice Az0 nz0 cz0, .slice Az1 nz1 cz1, .slice Az2 nz2 cz2, .slice Az3 nz3 cz3], .bool false]) (by simp [results, Try.results45, go_sem, f12, f14, f16, f18]) rfl ⟨_, _, _, _, _, _, _, _, _, _, _, _, by rw [HR.out], by rw [HR.out]; exact H.out, C.out⟩
 have H1 := jd h1
 cases h2 : (wrote t.b i s).2
 case false =>
  have HR := jd (show bothWrote t i r = (t, false) by simp [bothWrote, hok, hw, h2])
  have HT := jd hok
  have H2 := jd h2
  clear hok hw h1 h2
  have S := Sep.nil w w.heap.size
  have c := Below.refl w.heap.size w
  replace S := S.boxAt c.size (w.heap.size) rfl #[.slice Aa0 na0 ca0, .slice Aa1 na1 ca1, .slice Aa2 na2 ca2, .slice Aa3 na3 ca3] 34
  replace c := al c S
  replace S := S.boxAt c.size (w.heap.size + 1) (by simp) #[.slice none 0 0, .slice none 0 0, .slice none 0 0, .slice none 0 0] 34
  replace c := al c S
  go_enter Try.func45, Try.ntmps45
  have f0 := lk S 1 0 rfl rfl
  have f1 := lk S 1 1 rfl rfl
  have f2 := lk S 1 2 rfl rfl
  have f3 := lk S 1 3 rfl rfl
  go_wp2_with fail
  generalize (w.alloc (.cells #[.slice Aa0 na0 ca0, .slice Aa1 na1 ca1, .slice Aa2 na2 ca2, .slice Aa3 na3 ca3] 34)).alloc (.cells #[.slice none 0 0, .slice none 0 0, .slice none 0 0, .slice none 0 0] 34) = w1 at *
  refine (sTwoOk_any _ _ _ _ _ _ _ _ _ _ _ _ t _ _ (h.keep c) c.size (by omega)).mono ?_
  rintro e w2 ⟨rfl, b⟩
  replace c := c.trans (b.mono c.size)
  replace S := S.keep b
  clear b f0 f1 f2 f3
  rw [HT.out]
  go_wp2_with fail
  refine (sWith_any _ _ _ r _ ((hi.below c).up c.size) ho).mono ?_
  rintro e w3 ⟨As0, ns0, cs0, rfl, o, b⟩
  obtain ⟨fp_s, S'⟩ := S.has b o.has c.size
  replace c := c.trans (b.mono c.size)
  clear S; have S := S'; clear S' o b
  have ls : (withSum r).length = ns0 := rowCells_len (S.own_ 0 rfl)
  rw [HW.out] at S ls
  have f4 := lk S 2 0 rfl rfl
  have f5 := lk S 2 1 rfl rfl
  go_wp2_with fail
  refine (sWrote_any _ _ _ _ _ _ t.a i _ _ _ s _ ((ha.keep c).up c.size) hsa ((S.own_ 0 rfl).rd) hsz).mono ?_
  rintro e w4 ⟨Au0, nu0, cu0, Au1, nu1, cu1, rfl, o, b⟩
  obtain ⟨fp_u, S'⟩ := S.has b o c.size
  replace c := c.trans (b.mono c.size)
  clear S; have S := S'; clear S' o b f4 f5
  rw [H1.out]
  replace S := S.boxAt c.size (w4.heap.size) rfl #[.slice Au0 nu0 cu0, .slice Au1 nu1 cu1] 32
  replace c := al c S
  have f6 := lk S 4 2 rfl rfl
  have f7 := lk S 4 3 rfl rfl
  go_wp2_with fail
  generalize w4.alloc (.cells #[.slice Au0 nu0 cu0, .slice Au1 nu1 cu1] 32) = w5 at *
  refine (sWrote_any _ _ _ _ _ _ t.b i _ _ _ s _ ((hb.keep c).up c.size) hsb ((S.own_ 2 rfl).rd) hsz).mono ?_
  rintro e w6 ⟨Av0, nv0, cv0, Av1, nv1, cv1, rfl, o, b⟩
  obtain ⟨fp_v, S'⟩ := S.has b o c.size
  replace c := c.trans (b.mono c.size)
  clear S; have S := S'; clear S' o b f6 f7
  rw [H2.out]
  replace S := S.boxAt c.size (w6.heap.size) rfl #[.slice Av0 nv0 cv0, .slice Av1 nv1 cv1] 32
  replace c := al c S
  have q0 : ¬ ((ns0 : Int) = 0) := by omega
  have f8 := lk S 6 0 rfl rfl
  have f9 := lk S 6 1 rfl rfl
  have f10 := lk S 6 2 rfl rfl
  have f11 := lk S 6 3 rfl rfl
  go_wp2_with fail
  generalize w6.alloc (.cells #[.slice Av0 nv0 cv0, .slice Av1 nv1 cv1] 32) = w7 at *
  refine (sCopyT_any _ _ _ _ _ _ _ _ _ _ _ _ t _ ((h.keep c).up c.size) hs).mono ?_
  rintro e w8 ⟨Az0, nz0, cz0, Az1, nz1, cz1, Az2, nz2, cz2, Az3, nz3, cz3, rfl, o, b⟩
  obtain ⟨fp_z, S'⟩ := S.has b o c.size
  replace c := c.trans (b.mono c.size)
  clear S; have S := S'; clear S' o b f8 f9 f10 f11
  have f12 := lk S 6 0 rfl rfl
  have f13 := (S.at_ 6 rfl).free 0
  have f14 := lk S 6 1 rfl rfl
  have f15 := (S.at_ 6 rfl).free 1
  have f16 := lk S 6 2 rfl rfl
  have f17 := (S.at_ 6 rfl).free 2
  have f18 := lk S 6 3 rfl rfl
  have f19 := (S.at_ 6 rfl).free 3
  replace S := S.put 6 rfl 0 (.slice Az0 nz0 cz0)
  replace c := st c S (by omega)
  replace S := S.put 6 rfl 1 (.slice Az1 nz1 cz1)
  replace c := st c S (by omega)
  replace S := S.put 6 rfl 2 (.slice Az2 nz2 cz2)
  replace c := st c S (by omega)
  replace S := S.put 6 rfl 3 (.slice Az3 nz3 cz3)
  replace c := st c S (by omega)
  have H := jd S.first
  have C := jd c
  clear S c h ha hb ls
  go_wp2
  exact bodyPost_ret (v := .tuple #[.agg #[.slice Az0 nz0 cz0, .slice Az1 nz1 cz1, .slice Az2 nz2 cz2, .slice Az3 nz3 cz3], .bool false]) (by simp [results, Try.results45, go_sem, f12, f14, f16, f18]) rfl ⟨_, _, _, _, _, _, _, _, _, _, _, _, by rw [HR.out], by rw [HR.out]; exact H.out, C.out⟩
 have HR := jd (show bothWrote t i r = (⟨(wrote t.a i s).1, (wrote t.b i s).1⟩, true) by
  unfold bothWrote
  rw [if_pos hok, hw, if_pos ⟨hl, h1, h2⟩])
 have HT := jd hok
 have H2 := jd h2
 clear hok hw h1 h2
 have S := Sep.nil w w.heap.size
 have c := Below.refl w.heap.size w
 replace S := S.boxAt c.size (w.heap.size) rfl #[.slice Aa0 na0 ca0, .slice Aa1 na1 ca1, .slice Aa2 na2 ca2, .slice Aa3 na3 ca3] 34
 replace c := al c S
 replace S := S.boxAt c.size (w.heap.size + 1) (by simp) #[.slice none 0 0, .slice none 0 0, .slice none 0 0, .slice none 0 0] 34
 replace c := al c S
 go_enter Try.func45, Try.ntmps45
 have f0 := lk S 1 0 rfl rfl
 have f1 := lk S 1 1 rfl rfl
 have f2 := lk S 1 2 rfl rfl
 have f3 := lk S 1 3 rfl rfl
 go_wp2_with fail
 generalize (w.alloc (.cells #[.slice Aa0 na0 ca0, .slice Aa1 na1 ca1, .slice Aa2 na2 ca2, .slice Aa3 na3 ca3] 34)).alloc (.cells #[.slice none 0 0, .slice none 0 0, .slice none 0 0, .slice none 0 0] 34) = w1 at *
 refine (sTwoOk_any _ _ _ _ _ _ _ _ _ _ _ _ t _ _ (h.keep c) c.size (by omega)).mono ?_
 rintro e w2 ⟨rfl, b⟩
 replace c := c.trans (b.mono c.size)
 replace S := S.keep b
 clear b f0 f1 f2 f3
 rw [HT.out]
 go_wp2_with fail
 refine (sWith_any _ _ _ r _ ((hi.below c).up c.size) ho).mono ?_
 rintro e w3 ⟨As0, ns0, cs0, rfl, o, b⟩
 obtain ⟨fp_s, S'⟩ := S.has b o.has c.size
 replace c := c.trans (b.mono c.size)
 clear S; have S := S'; clear S' o b
 have ls : (withSum r).length = ns0 := rowCells_len (S.own_ 0 rfl)
 rw [HW.out] at S ls
 have f4 := lk S 2 0 rfl rfl
 have f5 := lk S 2 1 rfl rfl
 go_wp2_with fail
 refine (sWrote_any _ _ _ _ _ _ t.a i _ _ _ s _ ((ha.keep c).up c.size) hsa ((S.own_ 0 rfl).rd) hsz).mono ?_
 rintro e w4 ⟨Au0, nu0, cu0, Au1, nu1, cu1, rfl, o, b⟩
 obtain ⟨fp_u, S'⟩ := S.has b o c.size
 replace c := c.trans (b.mono c.size)
 clear S; have S := S'; clear S' o b f4 f5
 rw [H1.out]
 replace S := S.boxAt c.size (w4.heap.size) rfl #[.slice Au0 nu0 cu0, .slice Au1 nu1 cu1] 32
 replace c := al c S
 have f6 := lk S 4 2 rfl rfl
 have f7 := lk S 4 3 rfl rfl
 go_wp2_with fail
 generalize w4.alloc (.cells #[.slice Au0 nu0 cu0, .slice Au1 nu1 cu1] 32) = w5 at *
 refine (sWrote_any _ _ _ _ _ _ t.b i _ _ _ s _ ((hb.keep c).up c.size) hsb ((S.own_ 2 rfl).rd) hsz).mono ?_
 rintro e w6 ⟨Av0, nv0, cv0, Av1, nv1, cv1, rfl, o, b⟩
 obtain ⟨fp_v, S'⟩ := S.has b o c.size
 replace c := c.trans (b.mono c.size)
 clear S; have S := S'; clear S' o b f6 f7
 rw [H2.out]
 replace S := S.boxAt c.size (w6.heap.size) rfl #[.slice Av0 nv0 cv0, .slice Av1 nv1 cv1] 32
 replace c := al c S
 have q0 : ¬ ((ns0 : Int) = 0) := by omega
 have f8 := lk S 2 0 rfl rfl
 have f9 := lk S 2 1 rfl rfl
 have f10 := lk S 0 0 rfl rfl
 have f11 := lk S 0 1 rfl rfl
 have f12 := lk S 5 0 rfl rfl
 have f13 := (S.at_ 5 rfl).free 0
 have f14 := lk S 5 1 rfl rfl
 have f15 := (S.at_ 5 rfl).free 1
 have f16 := lk S 5 2 rfl rfl
 have f17 := (S.at_ 5 rfl).free 2
 have f18 := lk S 5 3 rfl rfl
 have f19 := (S.at_ 5 rfl).free 3
 replace S := S.put 5 rfl 0 (.slice Au0 nu0 cu0)
 replace c := st c S (by omega)
 replace S := S.put 5 rfl 1 (.slice Au1 nu1 cu1)
 replace c := st c S (by omega)
 replace S := S.put 5 rfl 2 (.slice Av0 nv0 cv0)
 replace c := st c S (by omega)
 replace S := S.put 5 rfl 3 (.slice Av1 nv1 cv1)
 replace c := st c S (by omega)
 replace S := S.sub (.cons _ (.cons_cons _ (.cons _ (.cons_cons _ (List.nil_sublist _)))))
 have H := jd S.pair
 have C := jd c
 clear S c h ha hb ls
 go_wp2
 exact bodyPost_ret (v := .tuple #[.agg #[.slice Au0 nu0 cu0, .slice Au1 nu1 cu1, .slice Av0 nv0 cv0, .slice Av1 nv1 cv1], .bool true]) (by simp [results, Try.results45, go_sem, f12, f14, f16, f18]) rfl ⟨_, _, _, _, _, _, _, _, _, _, _, _, by rw [HR.out], by rw [HR.out]; exact H.out, C.out⟩
end Go.Proofs.Ytecihkkagpbkdaa
